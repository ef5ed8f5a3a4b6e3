package tests

import (
	"fmt"
	"math/rand"
	"slices"
	"strings"
	"testing"

	"loop.example/g00340/impl"
)

// serverState is what of a server must last: the pairs of its tree, and its
// snapshots with theirs.
type serverState struct {
	pairs []impl.Pair
	snaps []old
}

// stateNow asks a server that is Up for its state.
func stateNow(t *testing.T, s impl.Server) serverState {
	t.Helper()
	var out serverState
	var code int
	out.pairs, code = impl.StorePairs(s.Store)
	mustCode(t, "StorePairs", code, impl.OK)
	for _, p := range s.Store.Super.Snaps {
		pairs, code := impl.SnapPairs(s.Store, p.Name)
		mustCode(t, "SnapPairs", code, impl.OK)
		out.snaps = append(out.snaps, old{p.Name, p.Tick, pairs})
	}
	return out
}

func sameState(a, b serverState) bool {
	return slices.Equal(a.pairs, b.pairs) && slices.EqualFunc(a.snaps, b.snaps, func(a, b old) bool {
		return a.name == b.name && a.tick == b.tick && slices.Equal(a.pairs, b.pairs)
	})
}

// serverRun is a server to which things happen, and what it answered: done is
// sure, doubt is what was under way when the power went.
type serverRun struct {
	r           *rand.Rand
	s           impl.Server
	done, doubt serverState
	seen        map[string]int
}

// someAct gives an act that is often done.
func someAct(r *rand.Rand, s impl.Server) serverAsk {
	a := impl.Admin{
		Kind:   []int{1, 1, 1, 2, 3, 4, 4, 4, 5, 5, 6, 6}[r.Intn(12)],
		Before: max(0, s.Tick-r.Intn(3000)),
		Name:   pick(r, "one", "two", "x", "y", "z", "one", "two", "nine_byte", ""),
		User:   pick(r, "ann", "ann", "ann", "bob", "bob", "an", "none", "9"),
		Folder: pick(r, "inbox", "inbox", "inbox", "inbox", "work", "new", "old", ""),
	}
	snaps := s.Store.Super.Snaps
	switch {
	case r.Intn(20) == 0:
		a.Kind = []int{0, 7, -1, 8}[r.Intn(4)]
	case a.Kind == impl.AdNewUser:
		a.User, a.Name = pick(r, "a", "b", "cid", "dan", "ann", "9"), pick(r, "x", "y", "word", "9")
	case a.Kind != impl.AdSnap && len(snaps) > 0 && r.Intn(3) > 0:
		a.Name = snaps[r.Intn(len(snaps))].Name
	}
	return toAdmin(a)
}

// next gives what happens next.
func (run *serverRun) next() serverAsk {
	r, k := run.r, run.r.Intn(2)
	n := r.Intn(100)
	switch {
	case !run.s.Up && n < 50:
		return restarting()
	case n < 36 && run.s.Up:
		return toTaker(k, someLine(r, run.s.Smtps[k]))
	case n < 74 && run.s.Up:
		return toReader(k, someCommand(r, run.s.Imaps[k]))
	case n < 90:
		return someAct(r, run.s)
	case n < 94:
		return later([]int{0, 1, 7, 500, 1000, -1, 1001}[r.Intn(7)])
	case n < 96:
		return arming(choices(r, 9)[r.Intn(202)][:r.Intn(10)]...)
	case n < 97:
		return crashing(choices(r, 9)[r.Intn(202)]...)
	case n < 98:
		return restarting()
	}
	return []serverAsk{toTaker(2, "noop"), toReader(-1, "a noop"), arming(make([]int, 501)...), toTaker(k, "noop"), toReader(k, "a noop")}[r.Intn(5)]
}

// step does what happens, as it is done by hand, and asks that what was
// answered is there.
func (run *serverRun) step(t *testing.T) {
	t.Helper()
	a := run.next()
	got := mustServeDue(t, "run", run.s, a)
	run.note(a, got)
	if sameServer(got.server, impl.Server{}) {
		return
	}
	switch {
	case run.s.Up && !got.server.Up && a.call != "CrashServer":
		calm := withServer(run.s, func(s *impl.Server) { s.Store.Disk.Armed, s.Store.Disk.Keep = false, nil })
		run.doubt = stateNow(t, a.do(calm).server)
	case a.call == "RestartServer" && got.code == impl.OK:
		if now := stateNow(t, got.server); !sameState(now, run.done) && !sameState(now, run.doubt) {
			t.Errorf("%s: what was answered is not there: %v", a, now)
		}
		run.done = stateNow(t, got.server)
	case got.server.Up && a.call != "SmtpLine" && a.call != "ImapLine" && a.call != "AdminDo":
		if now := stateNow(t, got.server); !sameState(now, run.done) {
			t.Errorf("%s: what was answered is not there: %v", a, now)
		}
	case got.server.Up:
		run.done = stateNow(t, got.server)
	}
	run.s = got.server
}

// note counts what came of a call.
func (run *serverRun) note(a serverAsk, got serverTold) {
	word := a.call + " " + impl.CodeWord(got.code)
	if a.call == "AdminDo" && got.code == impl.OK {
		word = fmt.Sprint(a.call, " ", a.admin.Kind)
	}
	run.seen[word]++
	run.seen[got.reply]++
	if len(got.said) > 0 {
		_, end, _ := strings.Cut(got.said[len(got.said)-1], " ")
		run.seen[end]++
	}
}

// Whatever comes, wherever the power goes: each answer is as by hand, what was
// answered lasts, and behind a restart there is that, or that and the one thing
// that was under way.
func TestRunsOfAServer(t *testing.T) {
	t.Parallel()
	r := rand.New(rand.NewSource(112))
	seen := map[string]int{}
	for i := range 20 {
		s := []impl.Server{impl.NewServer(), serverOf(town()), grownTown(), atGen(serverOf(town()), 195), crowded(grownTown(), 7)}[i%5]
		run := &serverRun{r: r, s: s, seen: seen}
		run.done = stateNow(t, s)
		for range 260 {
			run.step(t)
			if t.Failed() {
				return
			}
		}
	}
	for _, word := range []string{
		"SmtpLine ok", "SmtpLine down", "ImapLine ok", "ImapLine down", "AdminDo down", "AdminDo none", "AdminDo twice", "AdminDo name", "AdminDo full", "AdminDo form",
		"AdminDo 1", "AdminDo 2", "AdminDo 3", "AdminDo 4", "AdminDo 5", "AdminDo 6", "TickServer ok", "TickServer range", "CrashServer ok", "ArmServer ok", "ArmServer many",
		"RestartServer ok", "RestartServer twice", "250 ok", "452 no room", "OK", "NO full", "NO many", "NO none", "BAD",
	} {
		if seen[word] == 0 {
			t.Errorf("%s never came: %v", word, seen)
		}
	}
}

// A server goes on behind each crash as a new one would on that disk: two
// servers, one of which crashes and is restarted ahead of each act, come to the
// same.
func TestCrashesLeaveNothingBehind(t *testing.T) {
	r := rand.New(rand.NewSource(113))
	plain, shaken := grownTown(), grownTown()
	for i := range 150 {
		a := someAct(r, plain)
		if r.Intn(4) == 0 {
			a = later(r.Intn(1001))
		}
		down, code := impl.CrashServer(shaken, choices(r, 3)[r.Intn(8)])
		mustCode(t, "CrashServer", code, impl.OK)
		shaken, code = impl.RestartServer(down)
		mustCode(t, "RestartServer", code, impl.OK)
		one, other := a.do(plain), a.do(shaken)
		mustServerTold(t, fmt.Sprintf("act %d, %s", i, a), other, one)
		plain, shaken = one.server, other.server
		if t.Failed() || !plain.Up {
			return
		}
	}
}
