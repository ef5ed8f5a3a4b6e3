package tests

import (
	"fmt"
	"math"
	"math/rand"
	"runtime"
	"slices"
	"sync"
	"testing"

	"loop.example/g00340/impl"
)

// markKept is what lies behind the ends of lists of snapshots.
func markKept() impl.Kept { return impl.Kept{Name: "behind", Tick: -77, Pairs: []impl.Pair{markPair}} }

// guardedState lays each list of a state into memory with room behind its end.
func guardedState(s impl.State) (impl.State, func() bool) {
	pairs, samePairs := guarded(s.Pairs, markPair)
	checks := []func() bool{samePairs}
	var all []impl.Kept
	for _, k := range s.Snaps {
		list, same := guarded(k.Pairs, markPair)
		checks = append(checks, same)
		all = append(all, impl.Kept{Name: k.Name, Tick: k.Tick, Pairs: list})
	}
	all = append(all, markKept(), markKept(), markKept())
	was := cloneState(impl.State{Snaps: all})
	out := impl.State{Pairs: pairs, Snaps: all[:len(s.Snaps)]}
	return out, func() bool {
		return alikeStates(impl.State{Snaps: all}, was) && !slices.ContainsFunc(checks, func(same func() bool) bool { return !same() })
	}
}

func guardedWorld(w impl.World) (impl.World, func() bool) {
	server, sameServer := guardedServer(w.Server)
	done, sameDone := guardedState(w.Done)
	doubt, sameDoubt := guardedState(w.Doubt)
	w.Server, w.Done, w.Doubt = server, done, doubt
	return w, func() bool { return sameServer() && sameDone() && sameDoubt() }
}

func spoilState(s impl.State) {
	spoil(s.Pairs, markPair)
	for _, k := range s.Snaps {
		spoil(k.Pairs, markPair)
	}
	spoil(s.Snaps, markKept())
}

func spoilWorld(w impl.World) {
	spoilServer(w.Server)
	spoilState(w.Done)
	spoilState(w.Doubt)
}

// listsOfPairsIn gives all lists of pairs of states.
func listsOfPairsIn(states ...impl.State) [][]impl.Pair {
	var all [][]impl.Pair
	for _, s := range states {
		all = append(all, s.Pairs)
		for _, k := range s.Snaps {
			all = append(all, k.Pairs)
		}
	}
	return all
}

// worldListsApart asks that no two lists of an answer share memory.
func worldListsApart(told worldTold) bool {
	w := told.world
	pairs := listsOfPairsIn(w.Done, w.Doubt)
	for _, n := range w.Server.Store.Heap.Nodes {
		pairs = append(pairs, n.Pairs)
	}
	if !fillApart(pairs, func(i int) impl.Pair { return impl.Pair{Key: fmt.Sprint(i)} }) {
		return false
	}
	spoil(w.Done.Snaps, impl.Kept{Name: "done"})
	spoil(w.Doubt.Snaps, impl.Kept{Name: "doubt"})
	apart := !slices.ContainsFunc(w.Done.Snaps[:cap(w.Done.Snaps)], func(k impl.Kept) bool { return k.Name != "done" })
	return apart && serverListsApart(serverTold{server: w.Server, said: told.said})
}

func cloneWorldTold(a worldTold) worldTold {
	a.world, a.said = cloneWorld(a.world), slices.Clone(a.said)
	return a
}

// worldApart hands a guarded world and act in and asks that nothing of them is
// changed, that the answer is new memory, list by list, and that a second call
// answers alike.
func worldApart(t *testing.T, what string, w impl.World, a impl.WorldAct) {
	t.Helper()
	what += ": " + actName(a)
	in, same := guardedWorld(w)
	keep, sameKeep := guarded(a.Keep, markNumber)
	a.Keep = keep
	right := impl.WorldOK(in)
	first := worldDo(in, a)
	if !same() || !sameKeep() {
		t.Fatalf("%s: an argument is changed", what)
	}
	was := cloneWorldTold(first)
	second := worldDo(in, a)
	if !sameWorldTold(first, second) || impl.WorldOK(in) != right {
		t.Fatalf("%s: the second answer is another one", what)
	}
	if !worldListsApart(worldDo(in, a)) {
		t.Fatalf("%s: two lists of the answer share memory", what)
	}
	spoilWorld(first.world)
	spoil(first.said, markText)
	if !same() || !sameKeep() {
		t.Fatalf("%s: the answer shares memory with an argument", what)
	}
	spoilWorld(in)
	spoil(keep, markNumber)
	if !sameWorldTold(second, was) {
		t.Fatalf("%s: the answer changes with an argument or another answer", what)
	}
}

// keptActs lead everywhere: they change something, find no room, lose the power,
// have a code.
func keptActs() []impl.WorldAct {
	return slices.Concat(someActs(), longActs()[:4], worldActs(changers()...), worldActs(toTaker(1, "quit"), toReader(1, "a logout"), toReader(1, "a fetch 7"), toReader(1, "a list"), snapGone(long(65537)), crashing(1, 0, 1), arming(1, 0, 1)))
}

func TestWorldCallsKeepApart(t *testing.T) {
	t.Parallel()
	worlds := fullWorlds()
	worlds["new"], worlds["busy"], worlds["armed"], worlds["down"] = impl.NewWorld(), busyWorld(), worldOf(shaken(busyTown(), 1, 0, 1)), downWorld()
	worlds["four snapshots"], worlds["four, armed"] = worldOf(fourSnaps()), worldOf(shaken(fourSnaps(), 1, 1))
	worlds["a doubt"] = doubting(downWorld(), doneThen())
	worlds["a doubt that is found"] = cutWorld(busyTown().Store.Disk.Sectors, 33, doneThen(), stateOnStore(busyTown().Store))
	worlds["neither"] = cutWorld(busyTown().Store.Disk.Sectors, 33, doneThen(), stateWith(town()))
	worlds["lost"], worlds["about to be lost"] = withWorld(busyWorld(), func(w *impl.World) { w.Lost = true }), worldDoing(busyTown(), doneThen())
	for what, w := range worlds {
		for _, a := range keptActs() {
			worldApart(t, what, w, a)
		}
	}
	some := 0
	for what, w := range rightWorlds() {
		for _, a := range keptActs() {
			if some++; some%5 == 0 {
				worldApart(t, what, w, a)
			}
		}
	}
	for what, w := range wrongWorlds() {
		for _, a := range keptActs() {
			if some++; some%11 == 0 {
				worldApart(t, "wrong: "+what, w, a)
			}
		}
	}
}

func TestNewWorldsAreApart(t *testing.T) {
	if !worldListsApart(worldTold{world: impl.NewWorld()}) {
		t.Error("two lists of a new world share memory")
	}
	spoilWorld(impl.NewWorld())
	mustWorld(t, "NewWorld", impl.NewWorld(), impl.World{Server: upByHand(storeOf(newPairs()), 0), Done: stateWith(newPairs())})
}

func TestStateOfKeepsApart(t *testing.T) {
	servers := rightServers()
	servers["busy"], servers["four snapshots"], servers["no server"] = busyTown(), fourSnaps(), impl.Server{Up: true}
	for what, s := range servers {
		in, same := guardedServer(s)
		first, code := impl.StateOf(in)
		second, again := impl.StateOf(in)
		third, _ := impl.StateOf(in)
		if !same() || code != again || !alikeStates(first, second) {
			t.Errorf("%s: an argument or the second answer is another one", what)
		}
		if !fillApart(listsOfPairsIn(third), func(i int) impl.Pair { return impl.Pair{Key: fmt.Sprint(i)} }) {
			t.Errorf("%s: two lists of the answer share memory", what)
		}
		was := cloneState(second)
		spoilState(first)
		if !same() || !alikeStates(second, was) {
			t.Errorf("%s: the answer shares memory with an argument or another answer", what)
		}
		spoilServer(in)
		if !alikeStates(second, was) {
			t.Errorf("%s: the answer changes with an argument", what)
		}
	}
}

func TestSameStateKeepsItsArguments(t *testing.T) {
	states := byNames(otherStates())
	for _, a := range states {
		for _, b := range states {
			one, sameOne := guardedState(a)
			other, sameOther := guardedState(b)
			first := impl.SameState(one, other)
			if first != impl.SameState(one, other) || !sameOne() || !sameOther() || first != alikeStates(a, b) {
				t.Fatalf("%v, %v: an argument or the second answer is another one", a, b)
			}
		}
	}
}

func TestWorldRunKeepsApart(t *testing.T) {
	runs := [][]impl.WorldAct{nil, {}, readyActs(), slices.Concat(readyActs(), worldActs(arming(1, 0, 1), userBack("one", "ann"))), slices.Concat(readyActs(), worldActs(arming(1, 0, 1), userBack("one", "ann"), restarting(), crashing(1, 2, 3))), make([]impl.WorldAct, 121), {{Kind: 6, Keep: make([]int, 4097)}}}
	for i, acts := range runs {
		var keeps []func() bool
		in := slices.Clone(acts)
		for k := range in {
			keep, same := guarded(in[k].Keep, markNumber)
			in[k].Keep, keeps = keep, append(keeps, same)
		}
		mark := impl.WorldAct{Kind: 4, N: 77, Line: "behind the end"}
		all := append(in, mark, mark, mark)
		in = all[:len(acts)]
		same := func() bool {
			for k, a := range all {
				want := mark
				if k < len(acts) {
					want = acts[k]
				}
				if a.Kind != want.Kind || a.Session != want.Session || a.N != want.N || a.Line != want.Line || a.Admin != want.Admin || !slices.Equal(a.Keep, want.Keep) {
					return false
				}
			}
			return !slices.ContainsFunc(keeps, func(same func() bool) bool { return !same() })
		}
		first, codes, code := impl.WorldRun(in)
		second, codes2, code2 := impl.WorldRun(in)
		third, _, _ := impl.WorldRun(in)
		if !same() || code != code2 || !slices.Equal(codes, codes2) || !sameWorld(first, second) {
			t.Errorf("run %d: an argument or the second answer is another one", i)
		}
		if !worldListsApart(worldTold{world: third}) {
			t.Errorf("run %d: two lists of the answer share memory", i)
		}
		was, wasCodes := cloneWorld(second), slices.Clone(codes2)
		spoilWorld(first)
		spoil(codes, markNumber)
		if !same() {
			t.Errorf("run %d: the answer shares memory with an argument", i)
		}
		for k := range in {
			spoil(in[k].Keep, markNumber)
		}
		if !sameWorld(second, was) || !slices.Equal(codes2, wasCodes) {
			t.Errorf("run %d: the answer changes with an argument or another answer", i)
		}
	}
}

// What lies behind the ends of a world's lists is no part of it.
func TestNothingHangsOnWhatLiesBehindAWorld(t *testing.T) {
	for what, w := range map[string]impl.World{"busy": busyWorld(), "a doubt": doubting(downWorld(), stateOnStore(fourSnaps().Store)), "new": impl.NewWorld()} {
		more := cloneWorld(w)
		for _, s := range []*impl.State{&more.Done, &more.Doubt} {
			s.Pairs = append(s.Pairs, impl.Pair{Key: "a"})[:len(s.Pairs)]
			s.Snaps = append(s.Snaps, impl.Kept{Name: "9", Tick: -1})[:len(s.Snaps)]
			for i, k := range s.Snaps {
				s.Snaps[i].Pairs = append(k.Pairs, impl.Pair{Key: "a"})[:len(k.Pairs)]
			}
		}
		for _, a := range keptActs() {
			mustWorldTold(t, what+", behind the ends: "+actName(a), worldDo(more, a), stepByHand(w, a))
		}
	}
	keep := append(make([]int, 500), 1)
	mustCode(t, "500 of 501", worldDo(busyWorld(), impl.WorldAct{Kind: impl.WoArm, Keep: keep[:500]}).code, impl.OK)
	acts := append(make([]impl.WorldAct, 120), impl.WorldAct{Kind: 5})
	if w, codes, code := impl.WorldRun(acts[:120]); code != impl.OK || len(codes) != 120 || !w.Server.Up {
		t.Errorf("120 of 121: code %d, %d codes, Up %t", code, len(codes), w.Server.Up)
	}
}

// An empty list and nil are the same, in worlds and acts too.
func TestEmptyIsNilInWorlds(t *testing.T) {
	for what, w := range map[string]impl.World{"new": impl.NewWorld(), "down": worldOf(downByHand(impl.NewServer().Store.Disk.Sectors, 3)), "a doubt": doubting(worldOf(downByHand(impl.NewServer().Store.Disk.Sectors, 3)), stateWith(town()))} {
		other := cloneWorld(w)
		other.Done.Snaps = []impl.Kept{}
		if !w.Has {
			other.Doubt = impl.State{Pairs: []impl.Pair{}, Snaps: []impl.Kept{}}
		} else {
			other.Doubt.Snaps = []impl.Kept{}
		}
		other.Server.Store.Disk.Cache, other.Server.Store.Disk.Keep, other.Server.Store.Super.Snaps = []impl.Pending{}, []int{}, []impl.Snap{}
		for _, a := range keptActs() {
			same := a
			if len(a.Keep) == 0 {
				same.Keep = []int{}
			}
			if !sameWorldTold(worldDo(w, a), worldDo(other, same)) {
				t.Errorf("%s: %s is answered otherwise", what, actName(a))
			}
		}
	}
}

// anyState gives a state whose parts may be those of several ones, or waste.
func anyState(r *rand.Rand, all []impl.State) impl.State {
	s, other := cloneState(all[r.Intn(len(all))]), cloneState(all[r.Intn(len(all))])
	switch r.Intn(8) {
	case 0:
		s.Snaps = append(s.Snaps, other.Snaps...)
	case 1:
		s.Pairs = other.Pairs
	case 2:
		s.Snaps = append(s.Snaps, impl.Kept{Name: pick(r, "a", "zz", "9", ""), Tick: []int{0, -1, 60000, 60001, math.MaxInt}[r.Intn(5)], Pairs: other.Pairs})
	}
	return s
}

// anyWorld gives a world of the parts of several ones, or of waste.
func anyWorld(r *rand.Rand, all []impl.World, states []impl.State, stores []impl.Store) impl.World {
	w, other := cloneWorld(all[r.Intn(len(all))]), cloneWorld(all[r.Intn(len(all))])
	switch r.Intn(9) {
	case 0:
		w.Server = anyServer(r, []impl.Server{w.Server, other.Server}, stores)
	case 1:
		w.Server = other.Server
	case 2:
		w.Done = anyState(r, states)
	case 3:
		w.Doubt = anyState(r, states)
	case 4:
		w.Has = !w.Has
	case 5:
		w.Lost = !w.Lost
	case 6:
		w.Doubt, w.Has = anyState(r, states), true
	}
	return w
}

func anyAct(r *rand.Rand, w impl.World) impl.WorldAct {
	a := worldAct(anyAsk(r, w.Server))
	switch r.Intn(12) {
	case 0:
		a.Kind = []int{-1, 0, 8, math.MinInt, math.MaxInt}[r.Intn(5)]
	case 1:
		a.Kind = 1 + r.Intn(7)
	}
	return a
}

// No world makes a call panic, each is answered as by hand, and no answer hangs
// on the calls ahead: the same ones are asked again in the other direction.
func TestAnyWorldsInAnyOrder(t *testing.T) {
	r := rand.New(rand.NewSource(125))
	worlds := slices.Concat(byNames(rightWorlds()), byNames(wrongWorlds()), byNames(fullWorlds()), []impl.World{busyWorld(), downWorld(), worldOf(shaken(busyTown(), 1, 0, 1))})
	states := slices.Concat(byNames(rightStates()), byNames(wrongStates()))
	stores := byNames(allStores())
	type row struct {
		w    impl.World
		a    impl.WorldAct
		ok   bool
		told worldTold
	}
	var rows []row
	rights := 0
	for range 2200 {
		w := anyWorld(r, worlds, states, stores)
		a := row{w: w, a: anyAct(r, w)}
		a.ok, a.told = impl.WorldOK(w), worldDo(w, a.a)
		if a.ok {
			rights++
		}
		rows = append(rows, a)
	}
	for _, a := range slices.Backward(rows) {
		if a.ok != impl.WorldOK(a.w) || !sameWorldTold(worldDo(a.w, a.a), a.told) {
			t.Fatalf("the answer hangs on what was called ahead: %s", actName(a.a))
		}
		if a.ok != worldByHand(a.w) || !sameWorldTold(a.told, stepByHand(a.w, a.a)) {
			mustWorldTold(t, "another answer than is due: "+actName(a.a), a.told, stepByHand(a.w, a.a))
			t.FailNow()
		}
	}
	if rights < 300 || rights > 1900 {
		t.Errorf("%d are right: not enough, or too many", rights)
	}
}

// Lines of any bytes, to each sort of session.
func TestAnyLinesToAWorld(t *testing.T) {
	r := rand.New(rand.NewSource(126))
	for range 300 {
		w := worldOf(taking(reading(grownTown(), 1, openImaps()[r.Intn(8)]), 0, openSmtps()[r.Intn(10)]))
		line := pick(r, "", ".", "a ", "ab store 3 ", "rcpt to:<", "mail from:", "a copy 3 ", "a create ", "a login ann ") + someText(r, 62)
		for _, a := range worldActs(toTaker(0, line), toReader(1, line)) {
			if got := mustStepDue(t, "any bytes", w, a); got.world.Lost {
				t.Errorf("%s: lost", actName(a))
			}
		}
	}
}

// goroutinesSettle tells whether there are no more goroutines than ahead. One
// that has told all may take a moment to end.
func goroutinesSettle(ahead int) bool {
	for range 1 << 20 {
		if runtime.NumGoroutine() <= ahead {
			return true
		}
		runtime.Gosched()
	}
	return false
}

// When a call has answered no goroutine of its own is left.
func TestNoGoroutineIsLeft(t *testing.T) {
	ahead := runtime.NumGoroutine()
	for range 5 {
		for _, a := range keptActs() {
			for _, w := range []impl.World{busyWorld(), downWorld(), {}} {
				worldDo(w, a)
			}
		}
		impl.WorldRun(readyActs())
		impl.WorldRun(nil)
		impl.WorldRun(make([]impl.WorldAct, 121))
		impl.NewWorld()
	}
	if !goroutinesSettle(ahead) {
		t.Errorf("%d goroutines, there were %d", runtime.NumGoroutine(), ahead)
	}
}

// Calls at the same time, on the same world, answer as one behind the other.
func TestWorldsSideBySide(t *testing.T) {
	w, acts, run := busyWorld(), keptActs(), slices.Concat(readyActs(), worldActs(arming(1), snapNow("x"), restarting()))
	var want []worldTold
	for _, a := range acts {
		want = append(want, worldDo(w, a))
	}
	world, codes, _ := impl.WorldRun(run)
	var all sync.WaitGroup
	for range 6 {
		all.Go(func() {
			for i, a := range acts {
				if !sameWorldTold(worldDo(w, a), want[i]) {
					t.Errorf("%s: another answer", actName(a))
				}
			}
			if again, also, _ := impl.WorldRun(run); !sameWorld(again, world) || !slices.Equal(also, codes) {
				t.Error("WorldRun: another answer")
			}
		})
	}
	all.Wait()
}
