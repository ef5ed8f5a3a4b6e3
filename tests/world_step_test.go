package tests

import (
	"fmt"
	"math"
	"slices"
	"testing"

	"loop.example/g00340/impl"
)

// busyWorld is a world with a mail under way and a folder that is read.
func busyWorld() impl.World { return worldOf(busyTown()) }

// downWorld is that world behind a crash.
func downWorld() impl.World { return worldOf(downByHand(busyTown().Store.Disk.Sectors, 33)) }

// mustAnswer asks for an act that is done, and gives the world behind it: what is
// Done is the server's state then.
func mustAnswer(t *testing.T, what string, w impl.World, a impl.WorldAct, said ...string) impl.World {
	t.Helper()
	got := mustStepDue(t, what, w, a)
	mustCode(t, what, got.code, impl.OK)
	if !slices.Equal(got.said, said) {
		t.Errorf("%s: %q is said, not %q", what, got.said, said)
	}
	if got.world.Lost || got.world.Has {
		t.Errorf("%s: Lost %t, Has %t", what, got.world.Lost, got.world.Has)
	}
	if got.world.Server.Up {
		mustState(t, what, got.world.Done, stateOnStore(got.world.Server.Store))
	}
	return got.world
}

// An ordinary run, act by act.
func TestAWorld(t *testing.T) {
	w := impl.NewWorld()
	for _, row := range [][2]string{{"HELO me", "250 hello"}, {"MAIL FROM:<me>", "250 ok"}, {"RCPT TO:<ann>", "250 ok"}, {"RCPT TO:<bob>", "250 ok"}, {"DATA", "354 go on"}} {
		w = mustAnswer(t, row[0], w, worldAct(toTaker(1, row[0])), row[1])
		mustState(t, row[0], w.Done, stateWith(newPairs()))
	}
	w = mustAnswer(t, "a line", w, worldAct(toTaker(1, "text")))
	w = mustAnswer(t, "the end", w, worldAct(toTaker(1, ".")), "250 ok")
	first := mailWith(newPairs(), "f/ann/inbox", "1 2", "m/ann/inbox/001", "0text\n", "f/bob/inbox", "2 2", "m/bob/inbox/001", "0text\n")
	mustState(t, "a mail", w.Done, stateWith(first))
	w = mustAnswer(t, "login", w, worldAct(toReader(0, "a LOGIN ann apple")), "a OK")
	w = mustAnswer(t, "select", w, worldAct(toReader(0, "b SELECT inbox")), "* 1 EXISTS", "* VALIDITY 1 NEXT 2", "b OK")
	w = mustAnswer(t, "tick", w, impl.WorldAct{Kind: impl.WoTick, N: 7})
	w = mustAnswer(t, "snap", w, worldAct(snapNow("one")))
	mustState(t, "a snapshot", w.Done, stateWith(first, old{"one", 7, first}))
	w = mustAnswer(t, "store", w, worldAct(toReader(0, "c STORE 1 2")), "c OK")
	w = mustAnswer(t, "expunge", w, worldAct(toReader(0, "d EXPUNGE")), "* EXPUNGE 1", "d OK")
	gone := mailLess(first, "m/ann/inbox/001")
	mustState(t, "expunged", w.Done, stateWith(gone, old{"one", 7, first}))
	w = mustAnswer(t, "crash", w, impl.WorldAct{Kind: impl.WoCrash})
	mustState(t, "crashed", w.Done, stateWith(gone, old{"one", 7, first}))
	w = mustAnswer(t, "restart", w, impl.WorldAct{Kind: impl.WoRestart})
	w = mustAnswer(t, "restore", w, worldAct(folderBack("one", "ann", "inbox")))
	back := mailWith(first, "f/ann/inbox", "3 2", "v", "4")
	mustState(t, "restored", w.Done, stateWith(back, old{"one", 7, first}))
	w = mustAnswer(t, "sessions are new", w, worldAct(toReader(0, "e LIST")), "e NO state")
	w = mustAnswer(t, "drop", w, worldAct(snapGone("one")))
	w = mustAnswer(t, "a user", w, worldAct(userMore("cid", "cherry")))
	mustState(t, "a user", w.Done, stateWith(mailWith(back, "u/cid", "cherry", "f/cid/inbox", "4 1", "v", "5")))
}

// Kinds that are none, below and above: ahead of them comes only what is too
// long, or no world.
func TestOtherKindsOfActs(t *testing.T) {
	for _, kind := range []int{0, -1, -7, 8, 9, 257, 1<<32 + 1, math.MinInt, math.MaxInt} {
		for _, a := range []impl.WorldAct{{}, {Session: 2, N: -1, Line: "noop", Keep: make([]int, 501)}, {Line: long(65536), Keep: make([]int, 4096), Admin: impl.Admin{Kind: 1, Name: "new"}}} {
			a.Kind = kind
			for what, w := range map[string]impl.World{"new": impl.NewWorld(), "busy": busyWorld(), "down": downWorld(), "doubt": doubting(downWorld(), stateWith(town())), "lost": withWorld(busyWorld(), func(w *impl.World) { w.Lost = true })} {
				mustStayWorld(t, what, w, a, impl.ErrForm)
			}
			mustNotStepWorld(t, "no world", impl.World{}, a, impl.ErrBad)
			a.Keep = make([]int, 4097)
			mustNotStepWorld(t, "too long", busyWorld(), a, impl.ErrLong)
			mustNotStepWorld(t, "too long, no world", impl.World{}, a, impl.ErrLong)
		}
	}
}

// Each Kind once, with all that it does not take beside it: that changes
// nothing.
func TestKindsTakeTheirOwn(t *testing.T) {
	base := withWorld(busyWorld(), func(w *impl.World) { w.Server.Tick = 59990 })
	full := impl.WorldAct{Session: 1, N: 13, Line: "a create far", Admin: impl.Admin{Kind: impl.AdNewUser, User: "dan", Name: "date"}, Keep: []int{1, 0, 1}}
	for kind := 1; kind <= 7; kind++ {
		all := full
		all.Kind = kind
		own := impl.WorldAct{Kind: kind}
		switch kind {
		case 1, 2:
			own.Session, own.Line = all.Session, all.Line
		case 3:
			own.Admin = all.Admin
		case 4:
			own.N = all.N
		case 5, 6:
			own.Keep = all.Keep
		}
		for what, w := range map[string]impl.World{"busy": base, "down": downWorld()} {
			mustWorldTold(t, fmt.Sprint(what, kind), mustStepDue(t, what, w, all), mustStepDue(t, what, w, own))
		}
	}
}

// The codes in their order, each with all those behind it at once.
func TestCodesOfActs(t *testing.T) {
	many := make([]int, 501)
	up, down := busyWorld(), downWorld()
	wrong := withWorld(up, func(w *impl.World) { w.Done = impl.State{} })
	for kind := 1; kind <= 7; kind++ {
		a := impl.WorldAct{Kind: kind, Session: 2, N: -1, Admin: impl.Admin{Kind: 7}, Keep: many, Line: long(65536)}
		mustNotStepWorld(t, "no world", wrong, a, impl.ErrBad)
		tooLong := a
		tooLong.Line = long(65537)
		mustNotStepWorld(t, "a Line", wrong, tooLong, impl.ErrLong)
		mustNotStepWorld(t, "a Line", down, tooLong, impl.ErrLong)
		tooLong = a
		tooLong.Keep = make([]int, 4097)
		mustNotStepWorld(t, "a Keep", wrong, tooLong, impl.ErrLong)
		mustNotStepWorld(t, "a Keep", up, tooLong, impl.ErrLong)
		if kind < 7 {
			mustStayWorld(t, "no power", down, a, impl.ErrDown)
		}
	}
	for _, row := range []struct {
		a    impl.WorldAct
		code int
	}{
		{impl.WorldAct{Kind: 1, Session: 2, Line: long(65536), Keep: many}, impl.ErrRange},
		{impl.WorldAct{Kind: 2, Session: -1, Line: long(65536), Keep: many}, impl.ErrRange},
		{impl.WorldAct{Kind: 3, Session: -1, N: -1, Keep: many}, impl.ErrForm},
		{impl.WorldAct{Kind: 4, Session: -1, N: 1001, Keep: many}, impl.ErrRange},
		{impl.WorldAct{Kind: 6, Session: -1, N: -1, Keep: many}, impl.ErrMany},
		{impl.WorldAct{Kind: 7, Session: -1, N: -1, Keep: many}, impl.ErrTwice},
	} {
		mustStayWorld(t, "Up", up, row.a, row.code)
		mustStayWorld(t, "armed", worldOf(shaken(busyTown(), 1, 0, 1)), row.a, row.code)
		mustStayWorld(t, "what is Done is another one", worldDoing(busyTown(), stateWith(town())), row.a, row.code)
	}
}

// Other sessions are there neither for lines that take mail nor for those that
// read it.
func TestSessionsOfAWorld(t *testing.T) {
	for _, k := range []int{-1, 2, 3, 256, -2, 1 << 32, math.MinInt, math.MaxInt} {
		for _, line := range []string{"noop", "a noop", ".", "", "a create far", long(65536)} {
			mustStayWorld(t, "another session", busyWorld(), worldAct(toTaker(k, line)), impl.ErrRange)
			mustStayWorld(t, "another session", busyWorld(), worldAct(toReader(k, line)), impl.ErrRange)
			mustStayWorld(t, "another session, no power", downWorld(), worldAct(toTaker(k, line)), impl.ErrDown)
			mustStayWorld(t, "another session, no power", downWorld(), worldAct(toReader(k, line)), impl.ErrDown)
		}
	}
	for k := range 2 {
		w := mustAnswer(t, "hello", impl.NewWorld(), worldAct(toTaker(k, "helo me")), "250 hello")
		if !w.Server.Smtps[k].Hello || w.Server.Smtps[1-k].Hello {
			t.Errorf("session %d: %v", k, w.Server.Smtps)
		}
		w = mustAnswer(t, "login", impl.NewWorld(), worldAct(toReader(k, "a login bob berry")), "a OK")
		if w.Server.Imaps[k].User != "bob" || w.Server.Imaps[1-k].User != "" {
			t.Errorf("session %d: %v", k, w.Server.Imaps)
		}
	}
}

// Lines that say much, little or nothing are told as the server says them.
func TestLinesOfAWorld(t *testing.T) {
	w := worldOf(reading(reading(taking(taking(grownTown(), 0, tellingTo([]string{"ann"}, "x")), 1, met()), 0, known("ann")), 1, inside("ann", "inbox")))
	for _, line := range []string{"", ".", "..", "x", "noop", "quit", "rset", "helo me", "mail from:<me>", "rcpt to:<ann>", "data", "what", long(60), long(61), long(65536), "\x00\xff"} {
		for k := range 2 {
			mustStepDue(t, "taking", w, worldAct(toTaker(k, line)))
		}
	}
	for _, line := range []string{"", "a", "a ", " ", "a noop", "a logout", "a list", "a select inbox", "a select none", "a create far", "a create new", "a rename new far", "a delete new", "a delete inbox", "a fetch 6", "a fetch 9", "a fetch x", "a store 6 3", "a store 6 4", "a expunge", "a copy 6 w", "a copy 6 9", "a search s", "toolong noop", "* NO full", "a NO full", long(60), long(61), long(65536), "\x00\xff"} {
		for k := range 2 {
			got := mustStepDue(t, "reading", w, worldAct(toReader(k, line)))
			if len(got.said) == 0 || got.world.Lost {
				t.Errorf("%.40q: %q, Lost %t", line, got.said, got.world.Lost)
			}
		}
	}
	shut := worldOf(withServer(grownTown(), func(s *impl.Server) { s.Smtps, s.Imaps = make([]impl.Smtp, 2), make([]impl.Imap, 2) }))
	mustStepWorld(t, "a session that is shut", shut, worldAct(toTaker(0, "noop")), worldTold{world: shut})
	mustStepWorld(t, "a session that is shut", shut, worldAct(toReader(1, "a noop")), worldTold{world: shut})
}

// Each Kind of an administrator's acts, and others.
func TestAdminsOfAWorld(t *testing.T) {
	w := busyWorld()
	for _, a := range goodActs() {
		got := mustAnswer(t, "done", w, worldAct(a))
		if alikeStates(got.Done, w.Done) {
			t.Errorf("%s: nothing is done", a)
		}
	}
	for _, kind := range []int{0, -1, 7, 8, 257, math.MinInt, math.MaxInt} {
		a := impl.WorldAct{Kind: impl.WoAdmin, Admin: impl.Admin{Kind: kind, Name: "one", User: "ann", Folder: "inbox", Before: 8}}
		mustStayWorld(t, "another Kind", w, a, impl.ErrForm)
		mustStayWorld(t, "another Kind, not what was Done", worldDoing(w.Server, stateWith(town())), a, impl.ErrForm)
		mustStayWorld(t, "another Kind, no power", downWorld(), a, impl.ErrDown)
	}
	four := worldOf(fourSnaps())
	for _, row := range []struct {
		w    impl.World
		a    serverAsk
		code int
	}{
		{w, snapNow("one"), impl.ErrTwice}, {w, snapNow("nine_byte"), impl.ErrName}, {w, snapNow(""), impl.ErrName}, {w, snapNow(long(65537)), impl.ErrName},
		{four, snapNow("e"), impl.ErrFull}, {four, snapNow("a"), impl.ErrTwice}, {four, snapNow("9"), impl.ErrName},
		{w, snapGone("two"), impl.ErrNone}, {w, snapGone(""), impl.ErrNone}, {w, snapGone(long(65536)), impl.ErrNone}, {w, snapGone(long(65537)), impl.ErrLong},
		{w, pruneNow(7), impl.ErrNone}, {w, pruneNow(math.MinInt), impl.ErrNone}, {worldOf(impl.NewServer()), pruneNow(math.MaxInt), impl.ErrNone},
		{w, folderBack("two", "9", "9"), impl.ErrNone}, {w, folderBack(long(65537), "ann", "inbox"), impl.ErrNone}, {w, folderBack("one", "9", "inbox"), impl.ErrName}, {w, folderBack("one", "ann", ""), impl.ErrName}, {w, folderBack("one", "none", "none"), impl.ErrUser}, {w, folderBack("one", "ann", "none"), impl.ErrFolder},
		{worldOf(quotaTown()), folderBack("one", "ann", "inbox"), impl.ErrQuota}, {worldOf(crammed()), folderBack("one", "ann", "work"), impl.ErrFull}, {worldOf(crammed()), folderBack("one", "ann", "inbox"), impl.ErrFull},
		{worldOf(serverOf(mailWith(laterTown(), "v", "10000"), old{"one", 0, town()})), folderBack("one", "ann", "inbox"), impl.ErrMany},
		{w, userBack("two", "ann"), impl.ErrNone}, {w, userBack("one", "9"), impl.ErrName}, {w, userBack("one", "none"), impl.ErrUser}, {w, userBack("one", "cid"), impl.ErrNone},
		{w, userMore("ann", "apple"), impl.ErrTwice}, {w, userMore("9", "apple"), impl.ErrName}, {w, userMore("ann", "9"), impl.ErrName}, {worldOf(crammed()), userMore("dan", "date"), impl.ErrFull},
	} {
		mustStayWorld(t, "a code", row.w, worldAct(row.a), row.code)
		lost := withWorld(row.w, func(w *impl.World) { w.Lost = true })
		mustStayWorld(t, "a code, lost already", lost, worldAct(row.a), row.code)
	}
}

func TestTicksOfAWorld(t *testing.T) {
	for _, w := range []impl.World{busyWorld(), withWorld(busyWorld(), func(w *impl.World) { w.Server.Tick = 59500 }), worldDoing(busyTown(), stateWith(town())), withWorld(busyWorld(), func(w *impl.World) { w.Lost = true })} {
		for _, by := range []int{0, 1, 999, 1000} {
			want := withWorld(w, func(w *impl.World) { w.Server.Tick = min(60000, w.Server.Tick+by) })
			mustStepWorld(t, "later", w, impl.WorldAct{Kind: impl.WoTick, N: by}, worldTold{world: want})
		}
		for _, by := range []int{-1, 1001, -1000, 60000, math.MinInt, math.MaxInt} {
			mustStayWorld(t, "out of bounds", w, impl.WorldAct{Kind: impl.WoTick, N: by}, impl.ErrRange)
		}
	}
	for _, by := range []int{-1, 0, 1000, 1001} {
		mustStayWorld(t, "no power", downWorld(), impl.WorldAct{Kind: impl.WoTick, N: by}, impl.ErrDown)
	}
}

// A snapshot has the Tick at which it was taken, also in what is due.
func TestSnapshotsHaveTheirTicks(t *testing.T) {
	w := impl.NewWorld()
	ticks := 0
	for i, name := range []string{"d", "b", "c", "a"} {
		w = mustAnswer(t, "later", w, impl.WorldAct{Kind: impl.WoTick, N: 10 + i})
		ticks += 10 + i
		w = mustAnswer(t, "taken", w, worldAct(snapNow(name)))
		at := slices.IndexFunc(w.Done.Snaps, func(k impl.Kept) bool { return k.Name == name })
		if at < 0 || w.Done.Snaps[at].Tick != ticks || len(w.Done.Snaps) != i+1 {
			t.Errorf("%s: %v", name, w.Done.Snaps)
		}
	}
	if w = mustAnswer(t, "pruned", w, worldAct(pruneNow(33))); len(w.Done.Snaps) != 2 {
		t.Errorf("%v", w.Done.Snaps)
	}
}

// A crash leaves what was Done as it was, nothing in doubt, and a server that
// is not Up.
func TestCrashesOfAWorld(t *testing.T) {
	for _, w := range []impl.World{impl.NewWorld(), busyWorld(), worldOf(shaken(busyTown(), 1, 1)), worldDoing(busyTown(), stateWith(town())), withWorld(busyWorld(), func(w *impl.World) { w.Lost = true })} {
		want := withWorld(w, func(w *impl.World) { w.Server = downByHand(w.Server.Store.Disk.Sectors, w.Server.Tick) })
		for _, n := range []int{0, 1, 3, 499, 500, 501, 4096} {
			for _, keep := range [][]int{make([]int, n), slices.Repeat([]int{1}, n)} {
				mustStepWorld(t, "crashed", w, impl.WorldAct{Kind: impl.WoCrash, Keep: keep}, worldTold{world: want})
				mustStayWorld(t, "crashed twice", want, impl.WorldAct{Kind: impl.WoCrash, Keep: keep}, impl.ErrDown)
				mustStayWorld(t, "in doubt", doubting(want, stateWith(town())), impl.WorldAct{Kind: impl.WoCrash, Keep: keep}, impl.ErrDown)
			}
		}
		mustNotStepWorld(t, "4097 numbers", w, impl.WorldAct{Kind: impl.WoCrash, Keep: make([]int, 4097)}, impl.ErrLong)
	}
}

func TestArmsOfAWorld(t *testing.T) {
	for _, w := range []impl.World{impl.NewWorld(), busyWorld(), worldOf(shaken(busyTown(), 1, 1)), worldDoing(busyTown(), stateWith(town()))} {
		for _, keep := range [][]int{nil, {}, {0}, {1, 0, -1}, {math.MinInt, math.MaxInt}, make([]int, 499), slices.Repeat([]int{1}, 500)} {
			want := withWorld(w, func(w *impl.World) { w.Server = shaken(w.Server, slices.Clone(keep)...) })
			mustStepWorld(t, "armed", w, impl.WorldAct{Kind: impl.WoArm, Keep: keep}, worldTold{world: want})
			mustStayWorld(t, "no power", downWorld(), impl.WorldAct{Kind: impl.WoArm, Keep: keep}, impl.ErrDown)
		}
		for _, n := range []int{501, 502, 4096} {
			mustStayWorld(t, "too many", w, impl.WorldAct{Kind: impl.WoArm, Keep: make([]int, n)}, impl.ErrMany)
			mustStayWorld(t, "too many, no power", downWorld(), impl.WorldAct{Kind: impl.WoArm, Keep: make([]int, n)}, impl.ErrDown)
		}
		mustNotStepWorld(t, "4097 numbers", w, impl.WorldAct{Kind: impl.WoArm, Keep: make([]int, 4097)}, impl.ErrLong)
	}
}

// All right worlds and acts of all sorts together.
func TestWorldsAndActsTogether(t *testing.T) {
	t.Parallel()
	acts := slices.Concat(someActs(), longActs()[:4], worldActs(changers()...), worldActs(toTaker(0, "quit"), toReader(1, "a list"), toReader(0, "a login ann apple"), snapNow("one"), userMore("ann", "x"), folderBack("one", "none", "inbox"), crashing(), arming()))
	codes, lost, doubts := map[int]int{}, 0, 0
	i := 0
	for what, w := range rightWorlds() {
		for _, a := range acts {
			if i++; i%3 != 0 && a.Kind > 0 && a.Kind < 7 && !w.Server.Up {
				continue
			}
			got := mustStepDue(t, what, w, a)
			codes[got.code]++
			if got.world.Lost && !w.Lost {
				lost++
			}
			if got.world.Has && !w.Has {
				doubts++
			}
		}
		if t.Failed() {
			return
		}
	}
	for _, code := range []int{impl.OK, impl.ErrBad, impl.ErrLong, impl.ErrForm, impl.ErrRange, impl.ErrNone, impl.ErrMany, impl.ErrFull, impl.ErrSum, impl.ErrTwice, impl.ErrDown, impl.ErrUser} {
		if codes[code] == 0 {
			t.Errorf("no act is answered with code %d (%s): %v", code, impl.CodeWord(code), codes)
		}
	}
	if lost == 0 || doubts == 0 {
		t.Errorf("%d are lost, %d have a doubt", lost, doubts)
	}
}
