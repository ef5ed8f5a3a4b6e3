package tests

import (
	"slices"
	"strings"
	"testing"

	"loop.example/g00340/impl"
)

func TestWorldHolds(t *testing.T) {
	mustHold(t, "NewWorld", impl.NewWorld(), true)
	up, down := worldOf(grownTown()), worldOf(downByHand(grownTown().Store.Disk.Sectors, 20))
	doubt := doubting(down, stateWith(town()))
	for what, w := range map[string]impl.World{"Up": up, "not Up": down, "not Up, a Doubt": doubt, "not Up, Done in doubt": doubting(down, down.Done), "armed": worldOf(shaken(grownTown(), 1))} {
		mustHold(t, what, w, true)
		mustHold(t, what+", lost", withWorld(w, func(w *impl.World) { w.Lost = true }), false)
	}
	// Of a server that is not Up the state is not asked.
	mustHold(t, "not Up, another Done", worldDoing(down.Server, stateWith(town())), true)
	mustHold(t, "not Up, another Done and a Doubt", doubting(worldDoing(down.Server, stateWith(town())), down.Done), true)
	mustHold(t, "a new disk", impl.World{Server: downByHand(make([]string, 52), 0), Done: stateWith(town())}, true)
	for what, w := range rightWorlds() {
		mustHold(t, what, w, holdsByHand(w))
	}
}

// A server whose state is not Done, by as little as can be.
func TestWorldHoldsJustDone(t *testing.T) {
	state := stateOnStore(grownTown().Store)
	others := otherStatesOf(state)
	if len(others) != 8 {
		t.Fatalf("%d other states", len(others))
	}
	for what, other := range others {
		mustHold(t, "Done: "+what, worldDoing(grownTown(), other), false)
		mustHold(t, "Done: "+what+", lost", withWorld(worldDoing(grownTown(), other), func(w *impl.World) { w.Lost = true }), false)
		mustHold(t, "not Up, "+what, worldDoing(downByHand(grownTown().Store.Disk.Sectors, 20), other), true)
	}
	two := worldOf(serverOf(laterTown(), old{"one", 7, town()}, old{"two", 9, laterTown()}))
	mustHold(t, "two snapshots", two, true)
	for what, change := range map[string]func(s *impl.State){
		"the first Name":        func(s *impl.State) { s.Snaps[0].Name = "onf" },
		"the last Name":         func(s *impl.State) { s.Snaps[1].Name = "twp" },
		"the first Tick":        func(s *impl.State) { s.Snaps[0].Tick = 9 },
		"the last Tick":         func(s *impl.State) { s.Snaps[1].Tick = 7 },
		"the last pairs":        func(s *impl.State) { s.Snaps[1].Pairs = town() },
		"the first pairs":       func(s *impl.State) { s.Snaps[0].Pairs = laterTown() },
		"the pairs":             func(s *impl.State) { s.Pairs = town() },
		"the first one is gone": func(s *impl.State) { s.Snaps = s.Snaps[1:] },
		"the last one is gone":  func(s *impl.State) { s.Snaps = s.Snaps[:1] },
		"the last Value":        func(s *impl.State) { s.Snaps[1].Pairs = mailWith(laterTown(), "u/bob", "cherry") },
	} {
		mustHold(t, what, withWorld(two, func(w *impl.World) { change(&w.Done) }), false)
	}
	// The Tick of the server, its sessions and its disk's other sectors are no state.
	mustHold(t, "another Tick", withWorld(two, func(w *impl.World) { w.Server.Tick = 99 }), true)
	mustHold(t, "other sessions", worldOf(taking(reading(grownTown(), 1, openImaps()[3]), 0, openSmtps()[3])), true)
	mustHold(t, "another Gen", worldDoing(atGen(grownTown(), 77), state), true)
	mustHold(t, "alike trees on other pages", worldDoing(packed(laterTown(), old{"one", 7, town()}), state), true)
}

// ErrBad of a world that is not right, lost or not.
func TestWorldHoldsRefuses(t *testing.T) {
	refuse := func(what string, w impl.World) {
		t.Helper()
		ok, code := impl.WorldHolds(w)
		mustCode(t, what, code, impl.ErrBad)
		if ok {
			t.Errorf("%s: true with a code", what)
		}
	}
	refuse("nothing", impl.World{})
	for what, w := range wrongWorlds() {
		refuse(what, w)
		refuse(what+", lost", withWorld(w, func(w *impl.World) { w.Lost = true }))
	}
	some := 0
	for what, s := range wrongServers() {
		if some++; some%3 == 0 || strings.Contains(what, "Tick") {
			refuse("server: "+what, worldDoing(s, stateWith(town())))
		}
	}
	for what, s := range wrongStores() {
		refuse("store: "+what, worldDoing(withServer(grownTown(), func(server *impl.Server) { server.Store = cloneStore(s) }), stateWith(town())))
	}
}

// What a world has lost it has for ever; a world that no act has come to lately
// is found by its server's state.
func TestWorldHoldsBehindActs(t *testing.T) {
	lost := worldDo(worldDoing(grownTown(), stateWith(town())), worldAct(userMore("cid", "cherry"))).world
	mustHold(t, "lost by an act", lost, false)
	for _, a := range worldActs(later(1), crashing(), restarting()) {
		lost = worldDo(lost, a).world
		mustHold(t, "lost before: "+actName(a), lost, false)
	}
	w := worldDo(worldDoing(grownTown(), stateWith(town())), worldAct(crashing())).world
	mustHold(t, "not Up", w, true)
	mustHold(t, "a restart that finds what is not Done", worldDo(w, worldAct(restarting())).world, false)
	for _, done := range [][]impl.WorldAct{readyActs(), slices.Concat(readyActs(), worldActs(arming(1, 0, 1), userBack("one", "ann"))), slices.Concat(readyActs(), worldActs(arming(), userBack("one", "ann"), restarting()))} {
		w, _, code := impl.WorldRun(done)
		mustCode(t, "WorldRun", code, impl.OK)
		mustHold(t, "WorldRun", w, true)
	}
}
