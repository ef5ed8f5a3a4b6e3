package tests

import (
	"fmt"
	"math/rand"
	"slices"
	"testing"

	"loop.example/g00340/impl"
)

// mustBeCut arms a world, lets an act take its power, and asks that nothing is
// said and that what was due is in doubt; behind a restart there is what was
// Done, with nothing in doubt, and the act is done then as if it had never been
// begun.
func mustBeCut(t *testing.T, w impl.World, a impl.WorldAct, keep []int) {
	t.Helper()
	what := fmt.Sprintf("%v kept", keep)
	due, said, code := dueByHand(w.Server, w.Done, a)
	mustCode(t, what, code, impl.OK)
	ready := mustStepDue(t, what, w, impl.WorldAct{Kind: impl.WoArm, Keep: keep}).world
	cut := mustStepDue(t, what, ready, a)
	mustCode(t, what, cut.code, impl.ErrDown)
	got := cut.world
	if len(cut.said) > 0 || got.Server.Up || !got.Has || got.Lost {
		t.Errorf("%s: %q is said, Up %t, Has %t, Lost %t", what, cut.said, got.Server.Up, got.Has, got.Lost)
	}
	mustState(t, what+", Done", got.Done, w.Done)
	mustState(t, what+", Doubt", got.Doubt, due)
	mustStayWorld(t, what, got, a, impl.ErrDown)
	again := mustStepDue(t, what, got, impl.WorldAct{Kind: impl.WoRestart})
	mustCode(t, what, again.code, impl.OK)
	mustState(t, what+", restarted", again.world.Done, w.Done)
	mustState(t, what+", restarted", stateOnStore(again.world.Server.Store), w.Done)
	if again.world.Has || again.world.Lost || len(again.world.Doubt.Pairs)+len(again.world.Doubt.Snaps) > 0 {
		t.Errorf("%s: Has %t, Lost %t behind a restart", what, again.world.Has, again.world.Lost)
	}
	same := withWorld(again.world, func(next *impl.World) { next.Server.Smtps, next.Server.Imaps = w.Server.Smtps, w.Server.Imaps })
	done := mustStepDue(t, what+", once more", same, a)
	mustCode(t, what+", once more", done.code, impl.OK)
	mustState(t, what+", once more", done.world.Done, due)
	if !slices.Equal(done.said, said) || done.world.Lost {
		t.Errorf("%s, once more: %q is said, not %q, Lost %t", what, done.said, said, done.world.Lost)
	}
}

// The power goes in each act that changes something: lines of both sorts, and
// each Kind of an administrator's acts.
func TestPowerGoesInAnAct(t *testing.T) {
	r := rand.New(rand.NewSource(121))
	w := busyWorld()
	for _, a := range worldActs(changers()...) {
		keeps := [][]int{nil, {0, 0, 0, 0, 0, 0, 0, 0}, slices.Repeat([]int{1}, 60), slices.Repeat([]int{-1}, 500), {1}, {0, 1}, {1, 0, 1}}
		for range 4 {
			keeps = append(keeps, choices(r, 7)[r.Intn(1<<7)])
		}
		for _, keep := range keeps {
			mustBeCut(t, w, a, keep)
		}
		if t.Failed() {
			return
		}
	}
}

// What changes nothing takes no power: a world that is armed stays so.
func TestAWorldStaysArmed(t *testing.T) {
	w := worldOf(shaken(busyTown(), 1, 0, 1))
	for _, a := range []serverAsk{toTaker(0, "x"), toTaker(1, "helo me"), toTaker(1, "what"), toReader(1, "a noop"), toReader(1, "a list"), toReader(1, "a create new"), toReader(1, "a store 7 2"), later(5)} {
		got := mustBeDone(t, "nothing is changed", w, worldAct(a))
		if !got.Server.Up || !got.Server.Store.Disk.Armed {
			t.Errorf("%s: Up %t", a, got.Server.Up)
		}
	}
	for _, a := range []serverAsk{snapNow("one"), snapNow("9"), snapGone("two"), pruneNow(7), folderBack("one", "ann", "none"), userBack("one", "none"), userMore("ann", "apple"), toAdmin(impl.Admin{}), toTaker(2, "noop"), later(-1), restarting()} {
		got := mustStepDue(t, "a code", w, worldAct(a))
		if got.code == impl.OK || !sameWorld(got.world, w) {
			t.Errorf("%s: code %d", a, got.code)
		}
	}
}

// mustBeDone asks for an act that is done, whatever is said.
func mustBeDone(t *testing.T, what string, w impl.World, a impl.WorldAct) impl.World {
	t.Helper()
	got := mustStepDue(t, what, w, a)
	mustCode(t, what, got.code, impl.OK)
	if got.world.Lost {
		t.Errorf("%s: Lost", what)
	}
	return got.world
}

// The power goes at the superblock, which no world can be armed for: its writes
// are done by hand. The restart finds what was Done if the superblock is lost,
// and what was in doubt if that is kept.
func TestDoubtsAreFound(t *testing.T) {
	w := busyWorld()
	for _, a := range worldActs(changers()...) {
		done := mustStepDue(t, "done", w, a).world
		now, next := w.Server.Store, done.Server.Store
		pages := doneOn(now.Disk.Sectors, pageWrites(now, next.Heap, next.Super)...)
		cuts := map[string][]string{"ahead of the pages": now.Disk.Sectors, "ahead of the superblock": pages, "behind the superblock": doneOn(pages, write(next.Super.Gen%2, superText(next.Super)))}
		for what, sectors := range cuts {
			is := w.Done
			if what == "behind the superblock" {
				is = done.Done
			}
			got := mustStepDue(t, what, cutWorld(sectors, 33, w.Done, done.Done), impl.WorldAct{Kind: impl.WoRestart})
			mustCode(t, what, got.code, impl.OK)
			mustState(t, what, got.world.Done, is)
			mustState(t, what, stateOnStore(got.world.Server.Store), is)
			if got.world.Lost || got.world.Has || len(got.world.Doubt.Pairs) > 0 || len(got.world.Doubt.Snaps) > 0 || !got.world.Server.Up {
				t.Errorf("%s, %s: Lost %t, Has %t", actName(a), what, got.world.Lost, got.world.Has)
			}
		}
	}
}

// A restart finds what was Done, what was in doubt, or neither: that is lost.
// Lost stays.
func TestWhatARestartFinds(t *testing.T) {
	now := grownTown()
	state := stateOnStore(now.Store)
	down := downByHand(now.Store.Disk.Sectors, 20)
	other, third := stateWith(town()), stateWith(laterTown())
	up := upByHand(now.Store, 20)
	for what, row := range map[string]struct {
		w    impl.World
		done impl.State
		lost bool
	}{
		"what was Done":                    {worldDoing(down, state), state, false},
		"what was Done, another doubt":     {doubting(worldDoing(down, state), other), state, false},
		"what was Done, and in doubt":      {doubting(worldDoing(down, state), state), state, false},
		"what was in doubt":                {doubting(worldDoing(down, other), state), state, false},
		"neither, without a doubt":         {worldDoing(down, other), other, true},
		"neither, in doubt":                {doubting(worldDoing(down, other), third), other, true},
		"neither, in doubt of what is not": {doubting(worldDoing(down, other), other), other, true},
	} {
		want := impl.World{Server: up, Done: row.done, Lost: row.lost}
		mustStepWorld(t, what, row.w, impl.WorldAct{Kind: impl.WoRestart}, worldTold{world: want})
		want.Lost = true
		lost := withWorld(row.w, func(w *impl.World) { w.Lost = true })
		mustStepWorld(t, what+", lost already", lost, impl.WorldAct{Kind: impl.WoRestart}, worldTold{world: want})
	}
	for what, s := range otherStatesOf(state) {
		want := impl.World{Server: up, Done: s, Lost: true}
		mustStepWorld(t, what, worldDoing(down, s), impl.WorldAct{Kind: impl.WoRestart}, worldTold{world: want})
		mustStepWorld(t, what+" in doubt", doubting(worldDoing(down, s), s), impl.WorldAct{Kind: impl.WoRestart}, worldTold{world: want})
		want = impl.World{Server: up, Done: state}
		mustStepWorld(t, what+" in doubt, what was Done", doubting(worldDoing(down, state), s), impl.WorldAct{Kind: impl.WoRestart}, worldTold{world: want})
		mustStepWorld(t, what+" Done, what was in doubt", doubting(worldDoing(down, s), state), impl.WorldAct{Kind: impl.WoRestart}, worldTold{world: want})
	}
}

// otherStatesOf are states that a world may have, and that differ from that of
// grownTown by as little as can be.
func otherStatesOf(state impl.State) map[string]impl.State {
	all := map[string]impl.State{}
	for what, change := range map[string]func(s *impl.State){
		"a Value":            func(s *impl.State) { s.Pairs = mailWith(s.Pairs, "u/ann", "Apple") },
		"a pair less":        func(s *impl.State) { s.Pairs = mailLess(s.Pairs, "m/ann/inbox/006") },
		"a pair more":        func(s *impl.State) { s.Pairs = mailWith(s.Pairs, "f/bob/new", "1 1") },
		"a Name":             func(s *impl.State) { s.Snaps[0].Name = "One" },
		"a Tick":             func(s *impl.State) { s.Snaps[0].Tick = 8 },
		"a snapshot's Value": func(s *impl.State) { s.Snaps[0].Pairs = mailWith(s.Snaps[0].Pairs, "v", "8") },
		"a snapshot less":    func(s *impl.State) { s.Snaps = nil },
		"a snapshot more": func(s *impl.State) {
			s.Snaps = append(s.Snaps, impl.Kept{Name: "two", Tick: 7, Pairs: slices.Clone(s.Snaps[0].Pairs)})
		},
	} {
		s := cloneState(state)
		change(&s)
		if stateByHand(s) {
			all[what] = s
		}
	}
	return all
}

// A server that is Up is not restarted; one whose disk is none stays as it was,
// with its doubt.
func TestRestartsThatFail(t *testing.T) {
	for what, w := range rightWorlds() {
		if w.Server.Up {
			mustStayWorld(t, what, w, impl.WorldAct{Kind: impl.WoRestart}, impl.ErrTwice)
		}
	}
	base := busyTown().Store
	for what, row := range map[string]struct {
		sectors []string
		code    int
	}{
		"empty sectors":           {make([]string, 52), impl.ErrSum},
		"no superblock":           {doneOn(base.Disk.Sectors, write(0, "waste"), write(1, "")), impl.ErrSum},
		"a page that is not read": {doneOn(base.Disk.Sectors, write(2+base.Super.Root, "waste")), impl.ErrForm},
		"a new store":             {impl.NewStore().Disk.Sectors, impl.ErrForm},
		"no mail store":           {rightStores()["two leaves"].Disk.Sectors, impl.ErrForm},
		"a snapshot that is none": {storeOf(town(), old{"a", 0, keyed("a")}).Disk.Sectors, impl.ErrForm},
	} {
		for _, tick := range []int{0, 60000} {
			w := worldDoing(downByHand(row.sectors, tick), stateWith(town()))
			mustStayWorld(t, what, w, impl.WorldAct{Kind: impl.WoRestart}, row.code)
			mustStayWorld(t, what+", a doubt", doubting(w, stateWith(laterTown())), impl.WorldAct{Kind: impl.WoRestart}, row.code)
			mustStayWorld(t, what+", lost", withWorld(w, func(w *impl.World) { w.Lost = true }), impl.WorldAct{Kind: impl.WoRestart}, row.code)
		}
	}
	// A server that was armed while it was not Up is restarted so.
	armed := worldDoing(shaken(downByHand(base.Disk.Sectors, 33), 1), stateOnStore(base))
	if w := mustBeDone(t, "armed", armed, impl.WorldAct{Kind: impl.WoRestart}); !w.Server.Store.Disk.Armed {
		t.Error("not armed any more")
	}
}

// fullWorlds have no room on their server, by pages or by generations.
func fullWorlds() map[string]impl.World {
	s := busyTown()
	return map[string]impl.World{
		"MaxGen":        worldOf(atGen(s, 200)),
		"MaxGen, armed": worldOf(shaken(atGen(s, 200), 1, 1)),
		"no page":       worldOf(crowded(s, 0)),
		"a page":        worldOf(crowded(s, 1)),
		"no page, both": worldOf(atGen(crowded(s, 0), 200)),
	}
}

// Where the server has no room nothing is lost and nothing is in doubt: what is
// Done stays, though on it there would be room.
func TestNoRoomInAWorld(t *testing.T) {
	words := map[string]int{}
	for what, w := range fullWorlds() {
		for _, a := range worldActs(changers()...) {
			got := mustStepDue(t, what, w, a)
			_, said, code := dueByHand(w.Server, w.Done, a)
			if code != impl.OK || slices.Equal(got.said, said) && got.code == code {
				continue
			}
			words[fmt.Sprint(got.said, impl.CodeWord(got.code))]++
			if got.world.Lost || got.world.Has || !got.world.Server.Up {
				t.Errorf("%s, %s: Lost %t, Has %t", what, actName(a), got.world.Lost, got.world.Has)
			}
			mustState(t, what, got.world.Done, w.Done)
			want := cloneWorld(w)
			if a.Kind == impl.WoSmtp {
				want.Server.Smtps[a.Session] = met()
			}
			mustWorld(t, what+", "+actName(a), got.world, want)
		}
	}
	for _, word := range []string{"[452 no room]ok", "[a NO full]ok", "[a NO many]ok", "[]full", "[]many"} {
		if words[word] == 0 {
			t.Errorf("%s never came: %v", word, words)
		}
	}
}

// Where the server has no room, and what it has is not what was Done, that is
// lost.
func TestNoRoomAndNotWhatWasDone(t *testing.T) {
	for what, w := range fullWorlds() {
		for _, s := range otherStatesOf(w.Done) {
			for _, a := range worldActs(toTaker(0, "."), toReader(1, "a create far"), userMore("dan", "date")) {
				got := mustStepDue(t, what, worldDoing(w.Server, s), a)
				if !got.world.Lost || got.world.Has || !alikeStates(got.world.Done, s) {
					t.Errorf("%s, %s: Lost %t, Has %t", what, actName(a), got.world.Lost, got.world.Has)
				}
			}
		}
	}
}

// No room by what a mail store may have is due itself: it is said as the server
// says it.
func TestNoRoomThatIsDue(t *testing.T) {
	quota := worldOf(reading(taking(quotaTown(), 0, tellingTo([]string{"bob", "ann"}, "x")), 0, inside("ann", "work")))
	want := withWorld(quota, func(w *impl.World) { w.Server.Smtps[0] = met() })
	mustStepWorld(t, "quota", quota, worldAct(toTaker(0, ".")), worldTold{world: want, said: []string{"452 no room"}})
	mustStepWorld(t, "quota", quota, worldAct(toReader(0, "b copy 1 inbox")), worldTold{world: quota, said: []string{"b NO quota"}})
	crammed := worldOf(reading(crammed(), 1, known("ann")))
	mustStepWorld(t, "60 pairs", crammed, worldAct(toReader(1, "c create far")), worldTold{world: crammed, said: []string{"c NO full"}})
	spent := worldOf(reading(serverOf(mailWith(town(), "v", "10000")), 1, known("ann")))
	mustStepWorld(t, "the last validity", spent, worldAct(toReader(1, "d create far")), worldTold{world: spent, said: []string{"d NO many"}})
}

// A world whose Done is another one than the server's state is lost by the next
// line or act of an administrator that is answered, also with a code, and the
// server is as it is behind that; unless the act leads from both to one state:
// a folder or a user that is restored where they differ, a snapshot that goes.
func TestLost(t *testing.T) {
	t.Parallel()
	s := busyTown()
	state := stateOnStore(s.Store)
	others := otherStatesOf(state)
	others["a town"] = stateWith(town())
	acts := worldActs(append(changers(), toTaker(1, "noop"), toTaker(0, "x"), toReader(0, "a noop"), toReader(1, "a list"), toReader(0, ""), snapNow("one"), snapNow("9"), snapGone("none"), pruneNow(0), folderBack("none", "ann", "inbox"), folderBack("one", "ann", "none"), userBack("one", "none"), userMore("ann", "apple"))...)
	mends := 0
	for what, other := range others {
		w := worldDoing(s, other)
		for _, a := range acts {
			served := askOf(a).byHand(s)
			got := mustStepDue(t, what, w, a)
			mustServer(t, what, got.world.Server, served.server)
			mustCode(t, what, got.code, served.code)
			due, said, code := dueByHand(s, other, a)
			if alikeStates(due, stateOnStore(served.server.Store)) && code == got.code && slices.Equal(said, got.said) {
				mends++
				mustWorld(t, what, got.world, worldDoing(served.server, due))
				continue
			}
			mustState(t, what, got.world.Done, other)
			if !got.world.Lost || got.world.Has {
				t.Errorf("%s, %s: Lost %t, Has %t", what, actName(a), got.world.Lost, got.world.Has)
			}
			// Lost stays, whatever comes.
			for _, next := range worldActs(toTaker(1, "noop"), toReader(0, "a noop"), snapNow("z"), later(1), crashing(), arming(1), restarting()) {
				if !mustStepDue(t, what+", lost", got.world, next).world.Lost {
					t.Errorf("%s, %s: not lost any more", what, actName(next))
				}
			}
		}
		for _, a := range worldActs(later(1), later(-1), crashing(1), arming(1), arming(make([]int, 501)...), restarting(), toTaker(2, "noop"), toReader(-1, "a noop"), toAdmin(impl.Admin{})) {
			if mustStepDue(t, what, w, a).world.Lost {
				t.Errorf("%s, %s: lost", what, actName(a))
			}
		}
		if t.Failed() {
			return
		}
	}
	if mends != 7 {
		t.Errorf("%d acts lead from other states to one", mends)
	}
}

// What is due is done on Done, not on what the server has: it is that which is
// in doubt when the power goes.
func TestDoubtIsDoneOnDone(t *testing.T) {
	s := shaken(busyTown(), 1, 0, 1)
	for what, row := range map[string]struct {
		done impl.State
		a    serverAsk
		want impl.State
	}{
		"a line":               {stateWith(newPairs()), toReader(1, "a create far"), stateWith(mailWith(newPairs(), "f/ann/far", "3 1", "v", "4"))},
		"a line with a code":   {stateWith(mailWith(newPairs(), "f/ann/far", "2 1")), toReader(1, "a create far"), stateWith(mailWith(newPairs(), "f/ann/far", "2 1"))},
		"a mail for nobody":    {stateWith(newPairs()), toTaker(0, "."), stateWith(newPairs())},
		"a user":               {stateWith(newPairs(), old{"x", 1, town()}), userMore("dan", "date"), stateWith(mailWith(newPairs(), "u/dan", "date", "f/dan/inbox", "3 1", "v", "4"), old{"x", 1, town()})},
		"a user that is there": {stateWith(mailWith(newPairs(), "u/dan", "x", "f/dan/inbox", "2 1")), userMore("dan", "date"), stateWith(mailWith(newPairs(), "u/dan", "x", "f/dan/inbox", "2 1"))},
		"a snapshot":           {stateWith(newPairs(), old{"x", 1, town()}), snapNow("two"), stateWith(newPairs(), old{"two", 33, newPairs()}, old{"x", 1, town()})},
		"a snapshot there":     {stateWith(newPairs(), old{"two", 1, town()}), snapNow("two"), stateWith(newPairs(), old{"two", 1, town()})},
		"a fifth snapshot":     {stateOnStore(fourSnaps().Store), snapNow("two"), stateOnStore(fourSnaps().Store)},
		"a snapshot dropped":   {stateWith(newPairs(), old{"a", 1, town()}, old{"one", 1, town()}, old{"x", 1, town()}), snapGone("one"), stateWith(newPairs(), old{"a", 1, town()}, old{"x", 1, town()})},
		"none to drop":         {stateWith(newPairs(), old{"two", 1, town()}), snapGone("one"), stateWith(newPairs(), old{"two", 1, town()})},
		"snapshots pruned":     {stateWith(newPairs(), old{"a", 7, town()}, old{"b", 8, town()}, old{"c", 0, town()}), pruneNow(8), stateWith(newPairs(), old{"b", 8, town()})},
		"none to prune":        {stateWith(newPairs(), old{"b", 8, town()}), pruneNow(8), stateWith(newPairs(), old{"b", 8, town()})},
		"a folder":             {stateWith(newPairs(), old{"one", 1, town()}), folderBack("one", "ann", "inbox"), stateWith(mailWith(newPairs(), "f/ann/inbox", "3 5", "m/ann/inbox/001", "1one", "m/ann/inbox/003", "2three", "m/ann/inbox/004", "0", "v", "4"), old{"one", 1, town()})},
		"a folder of none":     {stateWith(newPairs()), folderBack("one", "ann", "inbox"), stateWith(newPairs())},
		"a user restored":      {stateWith(town(), old{"one", 1, newPairs()}), userBack("one", "bob"), stateWith(mailWith(mailLess(town(), "m/bob/inbox/002"), "f/bob/inbox", "7 1", "v", "8"), old{"one", 1, newPairs()})},
		"a user of none":       {stateWith(town(), old{"one", 1, pairsOf("v", "1")}), userBack("one", "bob"), stateWith(town(), old{"one", 1, pairsOf("v", "1")})},
	} {
		got := mustStepDue(t, what, worldDoing(s, row.done), worldAct(row.a))
		mustCode(t, what, got.code, impl.ErrDown)
		mustState(t, what+", Done", got.world.Done, row.done)
		mustState(t, what+", Doubt", got.world.Doubt, row.want)
		if !got.world.Has || got.world.Lost || got.world.Server.Up || len(got.said) > 0 {
			t.Errorf("%s: Has %t, Lost %t, %q", what, got.world.Has, got.world.Lost, got.said)
		}
	}
}

// What a tree that would lie too deep leads to is no lack of room: only the
// reply of a session that takes mail can't be told from that.
func TestTooDeepInAWorld(t *testing.T) {
	s := reading(taking(deepServer(), 0, tellingTo([]string{"ann"}, "x")), 1, inside("ann", "inbox"))
	w := worldOf(s)
	got := mustStepDue(t, "taking", w, worldAct(toTaker(0, ".")))
	if got.world.Lost || !slices.Equal(got.said, []string{"452 no room"}) {
		t.Errorf("Lost %t, %q", got.world.Lost, got.said)
	}
	got = mustStepDue(t, "reading", w, worldAct(toReader(1, "a create new")))
	if !got.world.Lost || !slices.Equal(got.said, []string{"a NO bad"}) {
		t.Errorf("Lost %t, %q", got.world.Lost, got.said)
	}
	got = mustStepDue(t, "an administrator", w, worldAct(userMore("cid", "cherry")))
	mustCode(t, "an administrator", got.code, impl.ErrBad)
	if !got.world.Lost || !got.world.Server.Up {
		t.Errorf("Lost %t, Up %t", got.world.Lost, got.world.Server.Up)
	}
}
