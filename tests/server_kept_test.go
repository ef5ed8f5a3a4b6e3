package tests

import (
	"fmt"
	"maps"
	"math"
	"math/rand"
	"slices"
	"testing"

	"loop.example/g00340/impl"
)

var (
	markSmtp = impl.Smtp{From: "behind", Rcpts: []string{"the"}, Lines: []string{"end"}}
	markImap = impl.Imap{User: "behind", Folder: "the_end"}
)

// guardedSmtps lays sessions, and each list of theirs, into memory with room
// behind its end.
func guardedSmtps(list []impl.Smtp) ([]impl.Smtp, func() bool) {
	var all []impl.Smtp
	var checks []func() bool
	for _, s := range list {
		in, same := guardedSmtp(s)
		all, checks = append(all, in), append(checks, same)
	}
	all = append(all, markSmtp, markSmtp, markSmtp)
	was := slices.Clone(all)
	return all[:len(list)], func() bool {
		return slices.EqualFunc(all, was, sameSmtp) && !slices.ContainsFunc(checks, func(same func() bool) bool { return !same() })
	}
}

// guardedServer lays each list of a server into memory with room behind its
// end.
func guardedServer(s impl.Server) (impl.Server, func() bool) {
	store, sameStore := guardedStore(s.Store)
	smtps, sameSmtps := guardedSmtps(s.Smtps)
	imaps, sameImaps := guarded(s.Imaps, markImap)
	s.Store, s.Smtps, s.Imaps = store, smtps, imaps
	return s, func() bool { return sameStore() && sameSmtps() && sameImaps() }
}

func spoilServer(s impl.Server) {
	spoilStore(s.Store)
	for _, session := range s.Smtps {
		spoilSmtp(session)
	}
	spoil(s.Smtps, markSmtp)
	spoil(s.Imaps, markImap)
}

// fillApart writes into each list what no other one has, up to the end of its
// memory, and asks that it stands there in the end.
func fillApart[T comparable](lists [][]T, mark func(i int) T) bool {
	for i, list := range lists {
		spoil(list, mark(i))
	}
	for i, list := range lists {
		if slices.ContainsFunc(list[:cap(list)], func(item T) bool { return item != mark(i) }) {
			return false
		}
	}
	return true
}

// serverListsApart asks that no two lists of an answer share memory.
func serverListsApart(told serverTold) bool {
	s := told.server
	texts, numbers := [][]string{told.said, s.Store.Disk.Sectors}, [][]int{s.Store.Disk.Keep}
	var pairs [][]impl.Pair
	for _, n := range s.Store.Heap.Nodes {
		texts, numbers, pairs = append(texts, n.Least), append(numbers, n.Kids), append(pairs, n.Pairs)
	}
	for _, session := range s.Smtps {
		texts = append(texts, session.Rcpts, session.Lines)
	}
	return fillApart(texts, func(i int) string { return fmt.Sprint(i) }) && fillApart(numbers, func(i int) int { return 1000 + i }) &&
		fillApart(pairs, func(i int) impl.Pair { return impl.Pair{Key: fmt.Sprint(i)} })
}

func cloneServerTold(a serverTold) serverTold {
	a.server, a.said = cloneServer(a.server), slices.Clone(a.said)
	return a
}

// serverApart hands a guarded server in and asks that nothing of it is changed,
// that the answer is new memory, list by list, and that a second call answers
// alike.
func serverApart(t *testing.T, what string, s impl.Server, a serverAsk) {
	t.Helper()
	what += ": " + a.String()
	in, same := guardedServer(s)
	keep, sameKeep := guarded(a.keep, markNumber)
	a.keep = keep
	right := impl.ServerOK(in)
	first := a.do(in)
	if !same() || !sameKeep() {
		t.Fatalf("%s: an argument is changed", what)
	}
	was := cloneServerTold(first)
	second := a.do(in)
	if !sameServerTold(first, second) || impl.ServerOK(in) != right {
		t.Fatalf("%s: the second answer is another one", what)
	}
	if !serverListsApart(a.do(in)) {
		t.Fatalf("%s: two lists of the answer share memory", what)
	}
	spoilServer(first.server)
	spoil(first.said, markText)
	if !same() || !sameKeep() {
		t.Fatalf("%s: the answer shares memory with an argument", what)
	}
	spoilServer(in)
	spoil(keep, markNumber)
	if !sameServerTold(second, was) {
		t.Fatalf("%s: the answer changes with an argument or another answer", what)
	}
}

// keptAsks are calls that lead everywhere: they change something, find no room,
// lose the power, have a code.
func keptAsks() []serverAsk {
	return slices.Concat(serverAsks(), tooLong(), changers(), []serverAsk{toTaker(1, "quit"), toReader(1, "a logout"), toReader(0, "a list"), toReader(1, "a fetch 7"), toReader(1, "a search e"), folderBack("one", "ann", "work"), userBack("one", "bob"), snapGone(long(65537))})
}

func TestServerCallsKeepApart(t *testing.T) {
	t.Parallel()
	servers := rightServers()
	busy := busyTown()
	servers["busy"], servers["busy, armed"], servers["busy, no room"] = busy, shaken(busy, 1, 0, 1), crowded(busy, 0)
	servers["busy, MaxGen"], servers["busy, all kept"] = atGen(busy, 200), shaken(busy, slices.Repeat([]int{1}, 60)...)
	for what, s := range servers {
		for _, a := range keptAsks() {
			serverApart(t, what, s, a)
		}
	}
	some := 0
	for what, s := range wrongServers() {
		for i, a := range keptAsks() {
			if some++; some%7 == 0 || i < 2 {
				serverApart(t, "wrong: "+what, s, a)
			}
		}
	}
}

func TestNewServersAreApart(t *testing.T) {
	if !serverListsApart(serverTold{server: impl.NewServer()}) {
		t.Error("two lists of a new server share memory")
	}
	spoilServer(impl.NewServer())
	mustServer(t, "NewServer", impl.NewServer(), upByHand(storeOf(newPairs()), 0))
}

// What lies behind the ends of a server's lists is no part of it.
func TestNothingHangsOnWhatLiesBehindAServer(t *testing.T) {
	s := busyTown()
	more := cloneServer(s)
	more.Smtps = append(more.Smtps, markSmtp)[:2]
	more.Imaps = append(more.Imaps, markImap)[:2]
	more.Smtps[0].Rcpts = append(more.Smtps[0].Rcpts, "9")[:2]
	more.Smtps[0].Lines = append(more.Smtps[0].Lines, long(61))[:1]
	more.Store.Disk.Sectors = append(more.Store.Disk.Sectors, "more")[:52]
	more.Store.Disk.Cache = []impl.Pending{write(0, "x")}[:0]
	more.Store.Super.Snaps = append(more.Store.Super.Snaps, snap("A", 99, -1))[:1]
	more.Store.Heap.Nodes = append(more.Store.Heap.Nodes, leaf("z"))[:50]
	for _, a := range keptAsks() {
		mustServerTold(t, "behind the ends: "+a.String(), a.do(more), a.byHand(s))
	}
	keep := append(make([]int, 500), 1)
	mustCode(t, "500 of 501", arming(keep[:500]...).do(s).code, impl.OK)
	mustCode(t, "501", arming(keep...).do(s).code, impl.ErrMany)
}

// An empty list and nil are the same, in servers too.
func TestEmptyIsNilInServers(t *testing.T) {
	for what, s := range map[string]impl.Server{"new": impl.NewServer(), "not Up": downByHand(impl.NewServer().Store.Disk.Sectors, 3)} {
		other := cloneServer(s)
		other.Store.Disk.Cache, other.Store.Disk.Keep = []impl.Pending{}, []int{}
		other.Store.Super.Snaps = []impl.Snap{}
		for i := range other.Smtps {
			other.Smtps[i].Rcpts, other.Smtps[i].Lines = []string{}, []string{}
		}
		for i, n := range other.Store.Heap.Nodes {
			if n.Leaf {
				other.Store.Heap.Nodes[i].Least, other.Store.Heap.Nodes[i].Kids = []string{}, []int{}
			}
		}
		if !s.Up {
			other.Store.Heap.Nodes, other.Smtps, other.Imaps = []impl.Node{}, []impl.Smtp{}, []impl.Imap{}
		}
		for _, a := range keptAsks() {
			if !sameServerTold(a.do(s), a.do(other)) {
				t.Errorf("%s: %s is answered otherwise", what, a)
			}
		}
	}
}

// byNames gives what a map has in the order of its keys.
func byNames[T any](all map[string]T) []T {
	var list []T
	for _, name := range slices.Sorted(maps.Keys(all)) {
		list = append(list, all[name])
	}
	return list
}

// anyServer gives a server whose parts may be those of several ones, or waste.
func anyServer(r *rand.Rand, all []impl.Server, stores []impl.Store) impl.Server {
	s, other := cloneServer(all[r.Intn(len(all))]), cloneServer(all[r.Intn(len(all))])
	switch r.Intn(12) {
	case 0:
		s.Store = someStore(r, stores)
	case 1:
		s.Store = other.Store
	case 2:
		s.Smtps = append(s.Smtps[:min(len(s.Smtps), 1)], anySmtp(r))
	case 3:
		s.Imaps = append(s.Imaps[:min(len(s.Imaps), 1)], anyImap(r))
	case 4:
		s.Smtps, s.Imaps = other.Smtps, other.Imaps
	case 5:
		s.Up = !s.Up
	case 6:
		s.Tick = []int{-1, 0, 60000, 60001, math.MinInt, math.MaxInt}[r.Intn(6)]
	case 7:
		s.Store.Disk = other.Store.Disk
	}
	return s
}

func anyAsk(r *rand.Rand, s impl.Server) serverAsk {
	run := &serverRun{r: r, s: s}
	if len(s.Smtps) < 2 || len(s.Imaps) < 2 {
		run.s.Up = false
	}
	a := run.next()
	if r.Intn(8) == 0 {
		a.k = []int{-1, 2, math.MinInt, math.MaxInt}[r.Intn(4)]
	}
	if tooMuch := r.Intn(20) == 0; tooMuch && len(a.line) > 0 {
		a.line += long(65537)
	} else if tooMuch && len(a.keep) > 0 {
		a.keep = append(a.keep, make([]int, 4097)...)
	}
	return a
}

// No server makes a call panic, each is answered as by hand, and no answer hangs
// on the calls ahead: the same ones are asked again in the other direction.
func TestAnyServersInAnyOrder(t *testing.T) {
	r := rand.New(rand.NewSource(114))
	servers := slices.Concat(byNames(rightServers()), byNames(wrongUps()), byNames(wrongDowns()),
		[]impl.Server{busyTown(), shaken(busyTown(), 1, 0, 1), crowded(busyTown(), 0), {}})
	stores := byNames(allStores())
	type row struct {
		s    impl.Server
		a    serverAsk
		ok   bool
		told serverTold
	}
	var rows []row
	rights := 0
	for range 2500 {
		s := anyServer(r, servers, stores)
		a := row{s: s, a: anyAsk(r, s)}
		a.ok, a.told = impl.ServerOK(s), a.a.do(s)
		if a.ok {
			rights++
		}
		rows = append(rows, a)
	}
	for _, a := range slices.Backward(rows) {
		if a.ok != impl.ServerOK(a.s) || !sameServerTold(a.a.do(a.s), a.told) {
			t.Fatalf("the answer hangs on what was called ahead: %s", a.a)
		}
		if a.ok != serverByHand(a.s) || !sameServerTold(a.told, a.a.byHand(a.s)) {
			mustServerTold(t, "another answer than is due: "+a.a.String(), a.told, a.a.byHand(a.s))
			t.FailNow()
		}
	}
	if rights < 300 || rights > 2200 {
		t.Errorf("%d are right: not enough, or too many", rights)
	}
}

// Lines of any bytes, to each sort of session.
func TestAnyLinesToAServer(t *testing.T) {
	t.Parallel()
	r := rand.New(rand.NewSource(115))
	for range 800 {
		s := taking(reading(grownTown(), 1, openImaps()[r.Intn(8)]), 0, openSmtps()[r.Intn(10)])
		line := pick(r, "", ".", "a ", "ab store 3 ", "rcpt to:<", "mail from:", "a copy 3 ", "a create ", "a login ann ") + someText(r, 62)
		mustServeDue(t, "any bytes", s, toTaker(0, line))
		mustServeDue(t, "any bytes", s, toReader(1, line))
	}
}
