package tests

import (
	"fmt"
	"math"
	"slices"
	"strings"
	"testing"

	"loop.example/g00340/impl"
)

func TestWorldConstants(t *testing.T) {
	kinds := []int{impl.WoSmtp, impl.WoImap, impl.WoAdmin, impl.WoTick, impl.WoCrash, impl.WoArm, impl.WoRestart, impl.MaxActs}
	if !slices.Equal(kinds, []int{1, 2, 3, 4, 5, 6, 7, 120}) {
		t.Error(kinds)
	}
}

func mustState(t *testing.T, what string, got, want impl.State) {
	t.Helper()
	if !alikeStates(got, want) {
		t.Errorf("%.200s: state %.400q, not %.400q", what, fmt.Sprint(got), fmt.Sprint(want))
	}
}

// The pairs of the tree, and of each snapshot in their order, with its Name and
// Tick, are the state.
func TestStateOf(t *testing.T) {
	for what, row := range map[string]struct {
		s    impl.Server
		want impl.State
	}{
		"new":              {impl.NewServer(), stateWith(newPairs())},
		"a town":           {serverOf(town()), stateWith(town())},
		"one snapshot":     {grownTown(), stateWith(laterTown(), old{"one", 7, town()})},
		"armed":            {shaken(grownTown(), 1, 0, 1), stateWith(laterTown(), old{"one", 7, town()})},
		"four snapshots":   {serverOf(town(), old{"d", 60000, newPairs()}, old{"a", 9, laterTown()}, old{"c", 0, pairsOf("v", "1")}, old{"B", 5, town()}), stateWith(town(), old{"B", 5, town()}, old{"a", 9, laterTown()}, old{"c", 0, pairsOf("v", "1")}, old{"d", 60000, newPairs()})},
		"snapshots of one": {fourSnaps(), stateWith(town(), old{"a", 0, town()}, old{"b", 5, town()}, old{"c", 5, town()}, old{"d", 60000, town()})},
		"60 pairs":         {packed(fullTown(60), old{"x", 1, fullTown(40)}), stateWith(fullTown(60), old{"x", 1, fullTown(40)})},
	} {
		got, code := impl.StateOf(row.s)
		mustCode(t, what, code, impl.OK)
		mustState(t, what, got, row.want)
	}
	for what, s := range rightServers() {
		got, code := impl.StateOf(s)
		if !s.Up {
			mustCode(t, what, code, impl.ErrDown)
			mustState(t, what, got, impl.State{})
			continue
		}
		mustCode(t, what, code, impl.OK)
		mustState(t, what, got, stateOnStore(s.Store))
	}
}

// What is no right server has no state, whether it is Up or not.
func TestStateOfWrongServers(t *testing.T) {
	for what, s := range wrongServers() {
		got, code := impl.StateOf(s)
		mustCode(t, what, code, impl.ErrBad)
		mustState(t, what, got, impl.State{})
	}
}

// otherStates differ from one by as little as can be.
func otherStates() map[string]impl.State {
	base := doneThen()
	all := map[string]impl.State{
		"nothing":            {},
		"no pairs":           stateWith(nil, old{"one", 7, town()}, old{"two", 8, town()}),
		"no snapshots":       stateWith(laterTown()),
		"a snapshot less":    stateWith(laterTown(), old{"one", 7, town()}),
		"the first less":     stateWith(laterTown(), old{"two", 8, town()}),
		"a snapshot more":    stateWith(laterTown(), old{"one", 7, town()}, old{"two", 8, town()}, old{"z", 0, nil}),
		"an empty one more":  stateWith(laterTown(), old{"one", 7, town()}, old{"two", 8, town()}, old{}),
		"the others' places": stateWith(laterTown(), old{"two", 8, town()}, old{"one", 7, town()}),
	}
	for what, change := range map[string]func(s *impl.State){
		"a pair less":                 func(s *impl.State) { s.Pairs = s.Pairs[:len(s.Pairs)-1] },
		"the first pair less":         func(s *impl.State) { s.Pairs = s.Pairs[1:] },
		"a pair more":                 func(s *impl.State) { s.Pairs = append(s.Pairs, impl.Pair{}) },
		"a Key":                       func(s *impl.State) { s.Pairs[3].Key += "x" },
		"a Value":                     func(s *impl.State) { s.Pairs[3].Value += "x" },
		"the last Value":              func(s *impl.State) { s.Pairs[len(s.Pairs)-1].Value = "13" },
		"pairs in another order":      func(s *impl.State) { s.Pairs[0], s.Pairs[1] = s.Pairs[1], s.Pairs[0] },
		"a Name":                      func(s *impl.State) { s.Snaps[0].Name = "onf" },
		"no Name":                     func(s *impl.State) { s.Snaps[0].Name = "" },
		"the last Name":               func(s *impl.State) { s.Snaps[1].Name = "TWO" },
		"a Tick":                      func(s *impl.State) { s.Snaps[0].Tick++ },
		"the last Tick":               func(s *impl.State) { s.Snaps[1].Tick = -8 },
		"a Tick of 65536 more":        func(s *impl.State) { s.Snaps[1].Tick += 65536 },
		"a snapshot's pair less":      func(s *impl.State) { s.Snaps[0].Pairs = s.Snaps[0].Pairs[1:] },
		"a snapshot's pair more":      func(s *impl.State) { s.Snaps[1].Pairs = append(s.Snaps[1].Pairs, impl.Pair{}) },
		"a snapshot's Key":            func(s *impl.State) { s.Snaps[1].Pairs[0].Key = "" },
		"a snapshot's Value":          func(s *impl.State) { s.Snaps[0].Pairs[4].Value = "" },
		"the last snapshot's Value":   func(s *impl.State) { s.Snaps[1].Pairs[14].Value = "8" },
		"a snapshot without pairs":    func(s *impl.State) { s.Snaps[1].Pairs = nil },
		"the tree's in a snapshot":    func(s *impl.State) { s.Snaps[1].Pairs = s.Pairs },
		"a snapshot's in the tree":    func(s *impl.State) { s.Pairs = s.Snaps[0].Pairs },
		"another snapshot, once more": func(s *impl.State) { s.Snaps[1] = s.Snaps[0] },
	} {
		s := cloneState(base)
		change(&s)
		all[what] = s
	}
	return all
}

func doneThen() impl.State {
	return stateWith(laterTown(), old{"one", 7, town()}, old{"two", 8, town()})
}

func TestSameState(t *testing.T) {
	base := doneThen()
	others := otherStates()
	for what, s := range others {
		if impl.SameState(base, s) || impl.SameState(s, base) {
			t.Errorf("%s: the same", what)
		}
		if !impl.SameState(s, cloneState(s)) || !impl.SameState(s, s) {
			t.Errorf("%s: another one than itself", what)
		}
		for with, other := range others {
			if impl.SameState(s, other) != (what == with) {
				t.Errorf("%s, %s", what, with)
			}
		}
	}
	if !impl.SameState(base, doneThen()) {
		t.Error("alike ones are not the same")
	}
}

// An empty list and nil are the same.
func TestSameStateOfEmptyLists(t *testing.T) {
	empty := []impl.State{{}, {Pairs: []impl.Pair{}}, {Snaps: []impl.Kept{}}, {Pairs: []impl.Pair{}, Snaps: []impl.Kept{}}, {Pairs: town()[:0], Snaps: doneThen().Snaps[:0]}}
	named := []impl.State{{Snaps: []impl.Kept{{Name: "a"}}}, {Snaps: []impl.Kept{{Name: "a", Pairs: []impl.Pair{}}}}, {Pairs: []impl.Pair{}, Snaps: []impl.Kept{{Name: "a", Pairs: town()[:0]}}}}
	for _, a := range empty {
		for _, b := range empty {
			if !impl.SameState(a, b) {
				t.Errorf("%#v and %#v", a, b)
			}
		}
		for _, b := range named {
			if impl.SameState(a, b) {
				t.Errorf("%#v and %#v", a, b)
			}
		}
	}
	for _, a := range named {
		for _, b := range named {
			if !impl.SameState(a, b) {
				t.Errorf("%#v and %#v", a, b)
			}
		}
	}
}

// States of any size are held against each other: they are no arguments of
// their own.
func TestSameStateOfLongLists(t *testing.T) {
	big := impl.State{Pairs: manyPairs(4097), Snaps: make([]impl.Kept, 4097)}
	big.Pairs[4096].Value, big.Snaps[4096].Name = long(65537), long(65537)
	other := cloneState(big)
	if !impl.SameState(big, other) {
		t.Error("alike ones are not the same")
	}
	other.Snaps[4096].Name = long(65536) + "y"
	if impl.SameState(big, other) {
		t.Error("the same, though the last Name is another one")
	}
}

func TestNewWorld(t *testing.T) {
	w := impl.NewWorld()
	mustWorld(t, "NewWorld", w, impl.World{Server: impl.NewServer(), Done: stateWith(newPairs())})
	if !impl.WorldOK(w) || !worldByHand(w) || w.Has || w.Lost || !w.Server.Up || w.Server.Tick != 0 {
		t.Errorf("%t %t %t", w.Has, w.Lost, w.Server.Up)
	}
	state, code := impl.StateOf(w.Server)
	mustCode(t, "StateOf", code, impl.OK)
	if !impl.SameState(state, w.Done) || !impl.SameState(w.Doubt, impl.State{}) {
		t.Error("Done is another one than the server's state, or there is a Doubt")
	}
}

// rightStates may be Done, or a Doubt: those at the edges.
func rightStates() map[string]impl.State {
	four := []old{{"A", 0, newPairs()}, {"_", 60000, pairsOf("v", "1")}, {"a", 1, town()}, {"eight_08", 59999, fullTown(60)}}
	return map[string]impl.State{
		"a next validity alone":  stateWith(pairsOf("v", "1")),
		"new":                    stateWith(newPairs()),
		"60 pairs":               stateWith(fullTown(60)),
		"a snapshot":             stateWith(town(), old{"a", 0, town()}),
		"a Tick of 60000":        stateWith(town(), old{"a", 60000, town()}),
		"a Name of 8 bytes":      stateWith(town(), old{"abcdefgh", 3, town()}),
		"Names that begin alike": stateWith(town(), old{"a", 3, town()}, old{"aa", 3, town()}, old{"ab", 3, town()}),
		"4 snapshots":            stateWith(laterTown(), four...),
		"of Ticks that fall":     stateWith(laterTown(), old{"a", 9, town()}, old{"b", 5, town()}, old{"c", 5, town()}),
		"empty lists":            {Pairs: newPairs(), Snaps: []impl.Kept{}},
	}
}

// wrongStates may be neither.
func wrongStates() map[string]impl.State {
	all := map[string]impl.State{
		"snapshots alone":           stateWith(nil, old{"a", 0, town()}),
		"no mail store":             stateWith(keyed("a", "b")),
		"no next validity":          stateWith(mailLess(town(), "v")),
		"a user without an inbox":   stateWith(mailLess(newPairs(), "f/bob/inbox")),
		"61 pairs":                  stateWith(fullTown(61)),
		"4097 pairs":                stateWith(manyPairs(4097)),
		"pairs in another order":    stateWith(append(newPairs()[1:], newPairs()[0])),
		"7 mails":                   stateWith(mailWith(quotaState().Pairs, "m/ann/work/007", "0w")),
		"5 snapshots":               stateWith(town(), old{"a", 0, town()}, old{"b", 0, town()}, old{"c", 0, town()}, old{"d", 0, town()}, old{"e", 0, town()}),
		"4097 snapshots":            {Pairs: town(), Snaps: make([]impl.Kept, 4097)},
		"a Tick of -1":              stateWith(town(), old{"a", -1, town()}),
		"a Tick of 60001":           stateWith(town(), old{"a", 60001, town()}),
		"the last Tick of -1":       stateWith(town(), old{"a", 0, town()}, old{"b", -1, town()}),
		"the last Tick of 60001":    stateWith(town(), old{"a", 0, town()}, old{"b", 60001, town()}),
		"the least Tick":            stateWith(town(), old{"a", math.MinInt, town()}),
		"the greatest Tick":         stateWith(town(), old{"a", math.MaxInt, town()}),
		"a Tick of 65536":           stateWith(town(), old{"a", 65536, town()}),
		"Names that fall":           stateWith(town(), old{"b", 0, town()}, old{"a", 0, town()}),
		"the last Names fall":       stateWith(town(), old{"a", 0, town()}, old{"c", 0, town()}, old{"b", 0, town()}),
		"small letters ahead":       stateWith(town(), old{"a", 0, town()}, old{"B", 0, town()}),
		"a longer Name ahead":       stateWith(town(), old{"aa", 0, town()}, old{"a", 0, town()}),
		"a Name twice":              stateWith(town(), old{"a", 0, town()}, old{"a", 0, town()}),
		"a Name twice, other Ticks": stateWith(town(), old{"a", 0, town()}, old{"b", 1, town()}, old{"b", 2, newPairs()}),
		"a snapshot without pairs":  stateWith(town(), old{"a", 0, nil}),
		"a snapshot that is none":   stateWith(town(), old{"a", 0, keyed("a")}),
		"a last one that is none":   stateWith(town(), old{"a", 0, town()}, old{"b", 0, mailLess(town(), "v")}),
		"a snapshot of 61 pairs":    stateWith(town(), old{"a", 0, fullTown(61)}),
	}
	for _, name := range wrongNames() {
		all[fmt.Sprintf("a Name of %.12q, %d bytes", name, len(name))] = stateWith(town(), old{name, 0, town()})
	}
	return all
}

func quotaState() impl.State { return stateOnStore(quotaTown().Store) }

// rightWorlds are of all sorts: what is Done, and in doubt, may be anything
// that a server could have.
func rightWorlds() map[string]impl.World {
	all := map[string]impl.World{"new": impl.NewWorld()}
	down := downByHand(grownTown().Store.Disk.Sectors, 20)
	for what, s := range rightStates() {
		all["Done: "+what] = worldDoing(grownTown(), s)
		all["Done, not Up: "+what] = worldDoing(down, s)
		all["Doubt: "+what] = doubting(worldOf(down), s)
		all["both: "+what] = doubting(worldDoing(down, s), s)
	}
	for what, s := range rightServers() {
		all["server: "+what] = worldDoing(s, stateWith(town()))
		if w := worldOf(s); stateByHand(w.Done) {
			all["server, its own state: "+what] = w
		}
		if !s.Up {
			all["server, a Doubt: "+what] = doubting(worldDoing(s, stateWith(town())), stateWith(laterTown()))
		}
	}
	for _, what := range []string{"new", "Done: 4 snapshots", "Doubt: new", "server: armed"} {
		all["lost: "+what] = withWorld(all[what], func(w *impl.World) { w.Lost = true })
	}
	all["an empty Doubt of lists"] = withWorld(all["new"], func(w *impl.World) { w.Doubt = impl.State{Pairs: []impl.Pair{}, Snaps: []impl.Kept{}} })
	return all
}

// wrongWorlds are not right by their states, or by what is in doubt.
func wrongWorlds() map[string]impl.World {
	up, down := worldOf(grownTown()), worldOf(downByHand(grownTown().Store.Disk.Sectors, 20))
	all := map[string]impl.World{
		"nothing":                       {},
		"a server alone":                {Server: impl.NewServer()},
		"a state alone":                 {Done: stateWith(town())},
		"Lost alone":                    {Lost: true},
		"Up, Has alone":                 withWorld(up, func(w *impl.World) { w.Has = true }),
		"Up, a Doubt":                   doubting(up, stateWith(town())),
		"Up, what is Done in doubt":     doubting(up, up.Done),
		"not Up, Has alone":             withWorld(down, func(w *impl.World) { w.Has = true }),
		"not Up, Has, empty lists":      doubting(down, impl.State{Pairs: []impl.Pair{}, Snaps: []impl.Kept{}}),
		"Up, pairs without Has":         withWorld(up, func(w *impl.World) { w.Doubt.Pairs = town() }),
		"Up, snapshots without Has":     withWorld(up, func(w *impl.World) { w.Doubt.Snaps = down.Done.Snaps }),
		"Up, an empty snapshot":         withWorld(up, func(w *impl.World) { w.Doubt.Snaps = make([]impl.Kept, 1) }),
		"Up, an empty pair":             withWorld(up, func(w *impl.World) { w.Doubt.Pairs = make([]impl.Pair, 1) }),
		"not Up, pairs without Has":     withWorld(down, func(w *impl.World) { w.Doubt.Pairs = town() }),
		"not Up, snapshots without Has": withWorld(down, func(w *impl.World) { w.Doubt.Snaps = down.Done.Snaps }),
		"not Up, Done without Has":      withWorld(down, func(w *impl.World) { w.Doubt = w.Done }),
		"not Up, no Done":               doubting(worldDoing(down.Server, impl.State{}), down.Done),
	}
	for what, s := range wrongStates() {
		all["Done: "+what] = worldDoing(up.Server, s)
		all["Done, not Up: "+what] = worldDoing(down.Server, s)
		all["Doubt: "+what] = doubting(down, s)
		all["both: "+what] = doubting(worldDoing(down.Server, s), s)
	}
	all["Done: nothing"] = worldDoing(up.Server, impl.State{})
	for what, w := range all {
		if strings.HasPrefix(what, "Up") || strings.HasPrefix(what, "Done: a Tick") {
			all["lost: "+what] = withWorld(w, func(w *impl.World) { w.Lost = true })
		}
	}
	return all
}

func TestRightWorlds(t *testing.T) {
	for what, w := range rightWorlds() {
		if !impl.WorldOK(w) || !worldByHand(w) {
			t.Errorf("%s: not right", what)
		}
	}
}

// someActs are done on most worlds, or have a code.
func someActs() []impl.WorldAct {
	return append(worldActs(toTaker(0, "noop"), toTaker(2, "noop"), toReader(1, "a noop"), toReader(-1, ""), snapNow("two"), toAdmin(impl.Admin{}), later(1), later(-1), crashing(1), arming(1, 0), arming(make([]int, 501)...), restarting()),
		impl.WorldAct{}, impl.WorldAct{Kind: 8}, impl.WorldAct{Kind: -1})
}

// Each act on a world that is not right is ErrBad, with an empty one; what is
// too long is told ahead.
func TestWrongWorlds(t *testing.T) {
	for what, w := range wrongWorlds() {
		if impl.WorldOK(w) || worldByHand(w) {
			t.Errorf("%s: right", what)
		}
		for _, a := range someActs() {
			mustNotStepWorld(t, what, w, a, impl.ErrBad)
		}
		for _, a := range longActs() {
			mustNotStepWorld(t, what, w, a, impl.ErrLong)
		}
	}
}

// A world whose server is not right is none, whatever is Done.
func TestWorldsOfWrongServers(t *testing.T) {
	acts := someActs()
	for what, s := range wrongServers() {
		w := worldDoing(s, stateWith(town()))
		if impl.WorldOK(w) {
			t.Errorf("%s: right", what)
		}
		if got := worldDo(w, acts[len(what)%len(acts)]); !sameWorldTold(got, worldTold{code: impl.ErrBad}) {
			mustWorldTold(t, what, got, worldTold{code: impl.ErrBad})
		}
	}
	for what, s := range wrongDowns() {
		if impl.WorldOK(doubting(worldDoing(s, stateWith(town())), stateWith(town()))) {
			t.Errorf("%s, a Doubt: right", what)
		}
	}
}

// longActs are given too much, with what is wrong beside it.
func longActs() []impl.WorldAct {
	text, list := long(65537), make([]int, 4097)
	var acts []impl.WorldAct
	for kind := -1; kind <= 8; kind++ {
		acts = append(acts, impl.WorldAct{Kind: kind, Line: text}, impl.WorldAct{Kind: kind, Keep: list})
	}
	return append(acts, impl.WorldAct{Kind: 1, Session: 2, Line: text, Keep: list}, impl.WorldAct{Kind: 4, N: -1, Keep: list}, impl.WorldAct{Kind: 3, Line: text}, impl.WorldAct{Kind: 99, Session: -1, N: -1, Line: text})
}
