package tests

import (
	"fmt"
	"slices"
	"strings"
	"testing"

	"loop.example/g00340/impl"
)

// worldTold is all that WorldStep answers.
type worldTold struct {
	world impl.World
	said  []string
	code  int
}

func worldDo(w impl.World, a impl.WorldAct) (told worldTold) {
	told.world, told.said, told.code = impl.WorldStep(w, a)
	return told
}

// worldAct gives the act of a call of chapter 12.
func worldAct(a serverAsk) impl.WorldAct {
	kind := 1 + slices.Index([]string{"SmtpLine", "ImapLine", "AdminDo", "TickServer", "CrashServer", "ArmServer", "RestartServer"}, a.call)
	return impl.WorldAct{Kind: kind, Session: a.k, N: a.by, Line: a.line, Admin: a.admin, Keep: a.keep}
}

func worldActs(asks ...serverAsk) []impl.WorldAct {
	var acts []impl.WorldAct
	for _, a := range asks {
		acts = append(acts, worldAct(a))
	}
	return acts
}

// askOf gives the call of chapter 12 that an act leads to.
func askOf(a impl.WorldAct) serverAsk {
	switch a.Kind {
	case 1:
		return toTaker(a.Session, a.Line)
	case 2:
		return toReader(a.Session, a.Line)
	case 3:
		return toAdmin(a.Admin)
	case 4:
		return later(a.N)
	case 5:
		return crashing(a.Keep...)
	case 6:
		return arming(a.Keep...)
	}
	return restarting()
}

func actName(a impl.WorldAct) string {
	if a.Kind < 1 || a.Kind > 7 {
		return fmt.Sprintf("Kind %d", a.Kind)
	}
	return "act " + askOf(a).String()
}

// stateWith gives a state of these pairs and snapshots.
func stateWith(list []impl.Pair, olds ...old) impl.State {
	s := impl.State{Pairs: slices.Clone(list)}
	for _, o := range olds {
		s.Snaps = append(s.Snaps, impl.Kept{Name: o.name, Tick: o.tick, Pairs: slices.Clone(o.pairs)})
	}
	return s
}

// stateOnStore gives what lies on a store that is right, tree by tree.
func stateOnStore(s impl.Store) impl.State {
	var olds []old
	for _, p := range s.Super.Snaps {
		olds = append(olds, old{p.Name, p.Tick, pairsBelow(s.Heap, p.Root)})
	}
	return stateWith(treePairs(s), olds...)
}

func cloneState(s impl.State) impl.State {
	s.Pairs, s.Snaps = slices.Clone(s.Pairs), slices.Clone(s.Snaps)
	for i := range s.Snaps {
		s.Snaps[i].Pairs = slices.Clone(s.Snaps[i].Pairs)
	}
	return s
}

func alikeStates(a, b impl.State) bool {
	return slices.Equal(a.Pairs, b.Pairs) && slices.EqualFunc(a.Snaps, b.Snaps, func(a, b impl.Kept) bool {
		return a.Name == b.Name && a.Tick == b.Tick && slices.Equal(a.Pairs, b.Pairs)
	})
}

func cloneWorld(w impl.World) impl.World {
	w.Server, w.Done, w.Doubt = cloneServer(w.Server), cloneState(w.Done), cloneState(w.Doubt)
	return w
}

func withWorld(w impl.World, change func(w *impl.World)) impl.World {
	w = cloneWorld(w)
	change(&w)
	return w
}

func sameWorld(a, b impl.World) bool {
	return a.Has == b.Has && a.Lost == b.Lost && alikeStates(a.Done, b.Done) && alikeStates(a.Doubt, b.Doubt) && sameServer(a.Server, b.Server)
}

func sameWorldTold(a, b worldTold) bool {
	return a.code == b.code && slices.Equal(a.said, b.said) && sameWorld(a.world, b.world)
}

// mustWorld tells in what worlds are not alike.
func mustWorld(t *testing.T, what string, got, want impl.World) {
	t.Helper()
	if sameWorld(got, want) {
		return
	}
	mustServer(t, what, got.Server, want.Server)
	t.Errorf("%.200s: Has %t, Lost %t, Done %.300q, Doubt %.300q, not %t, %t, %.300q, %.300q", what, got.Has, got.Lost, fmt.Sprint(got.Done), fmt.Sprint(got.Doubt), want.Has, want.Lost, fmt.Sprint(want.Done), fmt.Sprint(want.Doubt))
}

func mustWorldTold(t *testing.T, what string, got, want worldTold) {
	t.Helper()
	mustCode(t, what, got.code, want.code)
	mustWorld(t, what, got.world, want.world)
	if !slices.Equal(got.said, want.said) {
		t.Errorf("%.200s: %.200q is said, not %.200q", what, got.said, want.said)
	}
}

// stateByHand tells whether a state may be Done, by what may not be.
func stateByHand(s impl.State) bool {
	wrong := len(s.Snaps) > 4 || !mailByHand(s.Pairs)
	names := map[string]bool{}
	for i, k := range s.Snaps {
		wrong = wrong || noneShort(k.Name) || k.Tick < 0 || k.Tick > 60000 || names[k.Name] || !mailByHand(k.Pairs)
		wrong = wrong || i > 0 && strings.Compare(s.Snaps[i-1].Name, k.Name) > 0
		names[k.Name] = true
	}
	return !wrong
}

// worldByHand tells whether a world is right.
func worldByHand(w impl.World) bool {
	if !stateByHand(w.Done) || !serverByHand(w.Server) {
		return false
	}
	if w.Has {
		return !w.Server.Up && stateByHand(w.Doubt)
	}
	return len(w.Doubt.Pairs)+len(w.Doubt.Snaps) == 0
}

// actFault finds the codes with which nothing of the world is changed, ahead of
// what the act's own call has.
func actFault(w impl.World, a impl.WorldAct) int {
	switch {
	case a.Kind < 1 || a.Kind > 7:
		return impl.ErrForm
	case a.Kind != 7 && !w.Server.Up:
		return impl.ErrDown
	case a.Kind <= 2 && a.Session != 0 && a.Session != 1:
		return impl.ErrRange
	case a.Kind == 3 && (a.Admin.Kind < 1 || a.Admin.Kind > 6):
		return impl.ErrForm
	}
	return impl.OK
}

// dueByHand gives what is due of the first three Kinds of acts on a state, and
// what is to be said, or its code.
func dueByHand(s impl.Server, on impl.State, a impl.WorldAct) (impl.State, []string, int) {
	out := cloneState(on)
	var said []string
	switch a.Kind {
	case 1:
		told := heardByHand(on.Pairs, s.Smtps[a.Session], a.Line)
		out.Pairs = told.pairs
		if told.reply != "" {
			said = []string{told.reply}
		}
	case 2:
		told := readByHand(on.Pairs, s.Imaps[a.Session], a.Line)
		out.Pairs, said = told.pairs, told.said
	default:
		return out, nil, adminDue(&out, s.Tick, a.Admin)
	}
	return out, said, impl.OK
}

// adminDue changes a state by an act of an administrator.
func adminDue(on *impl.State, tick int, a impl.Admin) int {
	at := slices.IndexFunc(on.Snaps, func(k impl.Kept) bool { return k.Name == a.Name })
	switch {
	case a.Kind == 1 && noneShort(a.Name):
		return impl.ErrName
	case a.Kind == 1 && at >= 0:
		return impl.ErrTwice
	case a.Kind == 1 && len(on.Snaps) == 4:
		return impl.ErrFull
	case a.Kind == 1:
		on.Snaps = append(on.Snaps, impl.Kept{Name: a.Name, Tick: tick, Pairs: slices.Clone(on.Pairs)})
		slices.SortFunc(on.Snaps, func(a, b impl.Kept) int { return strings.Compare(a.Name, b.Name) })
		return impl.OK
	case a.Kind == 2 && len(a.Name) > 65536:
		return impl.ErrLong
	case (a.Kind == 2 || a.Kind == 4 || a.Kind == 5) && at < 0:
		return impl.ErrNone
	case a.Kind == 2:
		on.Snaps = slices.Delete(on.Snaps, at, at+1)
		return impl.OK
	case a.Kind == 3:
		n := len(on.Snaps)
		on.Snaps = slices.DeleteFunc(on.Snaps, func(k impl.Kept) bool { return k.Tick < a.Before })
		if len(on.Snaps) == n {
			return impl.ErrNone
		}
		return impl.OK
	case a.Kind == 6 && noneShort(a.User, a.Name):
		return impl.ErrName
	case a.Kind == 6:
		told := mailAsk{call: "AddUser", user: a.User, other: a.Name}.byHand(on.Pairs)
		on.Pairs = told.pairs
		return told.code
	}
	ask := restoreAsk{user: a.User, folder: a.Folder, all: a.Kind == 5}
	if noneShort(ask.needs()...) {
		return impl.ErrName
	}
	list, code := ask.byHand(on.Pairs, on.Snaps[at].Pairs)
	on.Pairs = list
	return code
}

// stepByHand gives what WorldStep is to answer.
func stepByHand(w impl.World, a impl.WorldAct) worldTold {
	switch {
	case len(a.Keep) > 4096 || len(a.Line) > 65536:
		return worldTold{code: impl.ErrLong}
	case !worldByHand(w):
		return worldTold{code: impl.ErrBad}
	}
	told := worldTold{world: cloneWorld(w), code: actFault(w, a)}
	if told.code != impl.OK {
		return told
	}
	served := askOf(a).byHand(w.Server)
	told.code = served.code
	switch {
	case a.Kind <= 3:
		told.servedByHand(w, a, served)
	case served.code != impl.OK:
	case a.Kind == 7:
		told.world.Server = served.server
		told.foundByHand(stateOnStore(served.server.Store))
	default:
		told.world.Server = served.server
	}
	return told
}

// servedByHand holds what a server answered against what is due.
func (told *worldTold) servedByHand(w impl.World, a impl.WorldAct, served serverTold) {
	due, said, code := dueByHand(w.Server, w.Done, a)
	told.said = served.said
	if served.reply != "" {
		told.said = []string{served.reply}
	}
	out := &told.world
	out.Server = served.server
	if !served.server.Up {
		out.Doubt, out.Has = due, true
		return
	}
	now := stateOnStore(served.server.Store)
	switch {
	case slices.Equal(said, told.said) && code == served.code && alikeStates(now, due):
		out.Done = due
	case fullByHand(a, *told) && alikeStates(now, w.Done):
	default:
		out.Lost = true
	}
}

// fullByHand tells whether what was said means that there was no room.
func fullByHand(a impl.WorldAct, told worldTold) bool {
	tag, _, _ := strings.Cut(a.Line, " ")
	all := strings.Join(told.said, "|")
	switch a.Kind {
	case 1:
		return all == "452 no room"
	case 2:
		return all == tag+" NO full" || all == tag+" NO many"
	}
	return told.code == impl.ErrFull || told.code == impl.ErrMany
}

// foundByHand is what a restart makes of what it finds.
func (told *worldTold) foundByHand(now impl.State) {
	w := &told.world
	if !alikeStates(now, w.Done) {
		if w.Has && alikeStates(now, w.Doubt) {
			w.Done = now
		} else {
			w.Lost = true
		}
	}
	w.Has, w.Doubt = false, impl.State{}
}

// mustStepWorld asks for what an act leads to, and holds it against the step
// that is done by hand; a world that is answered is right.
func mustStepWorld(t *testing.T, what string, w impl.World, a impl.WorldAct, want worldTold) worldTold {
	t.Helper()
	what += ": " + actName(a)
	got := worldDo(w, a)
	mustWorldTold(t, what, got, want)
	if due := stepByHand(w, a); !sameWorldTold(due, want) {
		mustWorldTold(t, what+" by hand", due, want)
	}
	if !sameWorld(got.world, impl.World{}) && (!impl.WorldOK(got.world) || !worldByHand(got.world)) {
		t.Errorf("%.200s: no right world is answered", what)
	}
	return got
}

// mustStepDue asks for what is done by hand.
func mustStepDue(t *testing.T, what string, w impl.World, a impl.WorldAct) worldTold {
	t.Helper()
	return mustStepWorld(t, what, w, a, stepByHand(w, a))
}

// mustStayWorld asks for a code, with which the world is as it was.
func mustStayWorld(t *testing.T, what string, w impl.World, a impl.WorldAct, code int) {
	t.Helper()
	mustStepWorld(t, what, w, a, worldTold{world: w, code: code})
}

// mustNotStepWorld asks for a code, with which nothing is answered.
func mustNotStepWorld(t *testing.T, what string, w impl.World, a impl.WorldAct, code int) {
	t.Helper()
	mustStepWorld(t, what, w, a, worldTold{code: code})
}

// worldOf gives the world of a server whose state is Done. Of one that is not
// Up the state is what its disk is opened as.
func worldOf(s impl.Server) impl.World {
	w := impl.World{Server: cloneServer(s)}
	store := s.Store
	if !s.Up {
		store, _ = impl.OpenStore(s.Store.Disk)
	}
	if len(store.Heap.Nodes) > 0 {
		w.Done = stateOnStore(store)
	}
	return w
}

// worldDoing gives the world of a server with another Done.
func worldDoing(s impl.Server, done impl.State) impl.World {
	return impl.World{Server: cloneServer(s), Done: cloneState(done)}
}

// doubting gives a world with a Doubt.
func doubting(w impl.World, doubt impl.State) impl.World {
	return withWorld(w, func(w *impl.World) { w.Doubt, w.Has = cloneState(doubt), true })
}

// cutWorld gives the world whose power went while a server did something: the
// disk, what was answered, and what was under way.
func cutWorld(sectors []string, tick int, done, doubt impl.State) impl.World {
	return doubting(worldDoing(downByHand(sectors, tick), done), doubt)
}
