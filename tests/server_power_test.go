package tests

import (
	"fmt"
	"math"
	"math/rand"
	"slices"
	"testing"

	"loop.example/g00340/impl"
)

// busyTown is grownTown with a mail under way and a folder that is read.
func busyTown() impl.Server {
	s := reading(taking(grownTown(), 0, tellingTo([]string{"ann", "cid"}, "x")), 1, inside("ann", "inbox"))
	return withServer(committed(s, mailWith(laterTown(), "m/ann/inbox/007", "2seven")), func(s *impl.Server) { s.Tick = 33 })
}

// changers are calls that change the store of busyTown: lines of both sorts,
// and one act of each Kind.
func changers() []serverAsk {
	list := []serverAsk{toTaker(0, ".")}
	for _, line := range []string{"store 7 0", "expunge", "copy 6 new", "create far", "rename new far", "delete new"} {
		list = append(list, toReader(1, "a "+line))
	}
	return append(list, goodActs()...)
}

// mustGoAtThePages arms a server, lets it do what takes its power, and asks
// that nothing is said, that it is not Up, and that it is opened as it was.
func mustGoAtThePages(t *testing.T, s impl.Server, a serverAsk, keep []int) {
	t.Helper()
	what := fmt.Sprintf("%s, %v kept", a, keep)
	ready := arming(keep...).do(s)
	mustCode(t, what, ready.code, impl.OK)
	cut := mustServeDue(t, what, ready.server, a)
	if cut.code != impl.ErrDown || cut.reply != "" || len(cut.said) > 0 || cut.server.Up || cut.server.Tick != s.Tick {
		t.Errorf("%s: code %d, %q, %q, Up %t, Tick %d", what, cut.code, cut.reply, cut.said, cut.server.Up, cut.server.Tick)
	}
	up := mustServeDue(t, what, cut.server, restarting())
	ahead := upByHand(s.Store, s.Tick)
	ahead.Store.Disk = cut.server.Store.Disk
	mustServer(t, what+", opened", up.server, ahead)
	again := withServer(up.server, func(up *impl.Server) { up.Smtps, up.Imaps = s.Smtps, s.Imaps })
	done, twice := a.do(s), a.do(again)
	mustCode(t, what+", again", twice.code, impl.OK)
	mustSuper(t, what+", again", twice.server.Store.Super, done.server.Store.Super)
	mustHeap(t, what+", again", twice.server.Store.Heap, done.server.Store.Heap)
}

func TestPowerGoesInALineOrAnAct(t *testing.T) {
	r := rand.New(rand.NewSource(111))
	s := busyTown()
	for _, a := range changers() {
		done := mustServeDue(t, "the power stays", s, a)
		if done.code != impl.OK || done.server.Store.Super.Gen != s.Store.Super.Gen+1 {
			t.Errorf("%s: code %d, Gen %d: nothing is committed", a, done.code, done.server.Store.Super.Gen)
		}
		n := len(pageWrites(s.Store, done.server.Store.Heap, done.server.Store.Super))
		keeps := [][]int{nil, make([]int, n), slices.Repeat([]int{1}, n), slices.Repeat([]int{-1}, 500), {0, 1}, {1, 0, 1}}
		for range 10 {
			keeps = append(keeps, choices(r, min(n, 8))[r.Intn(1<<min(n, 8))])
		}
		for _, keep := range keeps {
			mustGoAtThePages(t, s, a, keep)
		}
		if t.Failed() {
			return
		}
	}
}

// The power goes at the superblock, which no server can be armed for: its
// writes are done by hand. It is opened as it was ahead if the superblock is
// lost, as it is behind if that is kept.
func TestPowerGoesAtTheSuperblockOfAServer(t *testing.T) {
	s := busyTown()
	for _, a := range changers() {
		done := a.do(s).server
		d := sure(doneOn(s.Store.Disk.Sectors, pageWrites(s.Store, done.Store.Heap, done.Store.Super)...)...)
		d, _ = impl.DiskWrite(d, done.Store.Super.Gen%2, superText(done.Store.Super))
		for kept, as := range map[int]impl.Server{0: s, 1: done} {
			cut, _ := impl.DiskCrash(d, []int{kept})
			want := upByHand(as.Store, s.Tick)
			want.Store.Disk = cut
			mustServe(t, a.String(), downByHand(cut.Sectors, s.Tick), restarting(), serverTold{server: want})
		}
	}
}

// A line or an act that changes nothing, or has a code, does not sync: the
// server stays Up, and armed.
func TestAServerStaysArmed(t *testing.T) {
	s := shaken(busyTown(), 1, 0, 1)
	for _, a := range []serverAsk{
		toTaker(0, "x"), toTaker(1, "helo me"), toTaker(1, "quit"), toTaker(1, "what"), toTaker(0, long(61)),
		toReader(1, "a noop"), toReader(1, "a list"), toReader(1, "a select w"), toReader(1, "a fetch 7"), toReader(1, "a store 7 2"), toReader(1, "a store 9 2"), toReader(1, "a create new"), toReader(0, "a create far"), toReader(1, "a what"), toReader(1, "a logout"),
		later(1), later(1000),
	} {
		got := mustServeDue(t, "nothing is changed", s, a)
		if got.code != impl.OK || !got.server.Up || !got.server.Store.Disk.Armed || !sameStore(got.server.Store, s.Store) {
			t.Errorf("%s: code %d, Up %t", a, got.code, got.server.Up)
		}
	}
	for _, a := range []serverAsk{snapNow("one"), snapNow(""), snapGone("two"), pruneNow(7), folderBack("two", "ann", "inbox"), folderBack("one", "ann", "new"), userBack("one", "none"), userMore("ann", "apple"), toAdmin(impl.Admin{}), restarting()} {
		if got := mustServeDue(t, "a code", s, a); got.code == impl.OK || !sameServer(got.server, s) {
			t.Errorf("%s: code %d", a, got.code)
		}
	}
}

// Without a crash a server that is armed once is armed anew; behind a crash it
// is not armed any more.
func TestArmedOnce(t *testing.T) {
	s := mustServeDue(t, "armed", busyTown(), arming(1, 1, 1)).server
	s = mustServeDue(t, "armed anew", s, arming(0, 2)).server
	if !s.Store.Disk.Armed || !slices.Equal(s.Store.Disk.Keep, []int{0, 2}) {
		t.Errorf("%t %v", s.Store.Disk.Armed, s.Store.Disk.Keep)
	}
	cut := mustServeDue(t, "cut", s, userMore("dan", "date"))
	mustCode(t, "cut", cut.code, impl.ErrDown)
	s = mustServeDue(t, "restarted", cut.server, restarting()).server
	if s.Store.Disk.Armed {
		t.Error("armed still")
	}
	mustCode(t, "again", mustServeDue(t, "again", s, userMore("dan", "date")).code, impl.OK)
	// One that is not Up is armed for what it does when it is Up again.
	s = mustServeDue(t, "armed while it is down", mustServeDue(t, "crashed", s, crashing()).server, arming(1)).server
	if s.Up || !s.Store.Disk.Armed {
		t.Errorf("Up %t, armed %t", s.Up, s.Store.Disk.Armed)
	}
	s = mustServeDue(t, "restarted", s, restarting()).server
	if !s.Up || !s.Store.Disk.Armed {
		t.Errorf("Up %t, armed %t", s.Up, s.Store.Disk.Armed)
	}
	mustCode(t, "cut", mustServeDue(t, "cut", s, userMore("dan", "date")).code, impl.ErrDown)
	// A crash takes that away, whether it is Up or not.
	for _, s := range []impl.Server{s, mustServeDue(t, "armed", mustServeDue(t, "down", s, crashing()).server, arming(1, 1)).server} {
		if down := mustServeDue(t, "crashed", s, crashing(1)).server; down.Up || down.Store.Disk.Armed || len(down.Store.Disk.Keep) > 0 {
			t.Errorf("Up %t, armed %t, %v", down.Up, down.Store.Disk.Armed, down.Store.Disk.Keep)
		}
	}
}

func TestTickServer(t *testing.T) {
	base := busyTown()
	for _, s := range []impl.Server{base, shaken(base, 1), downByHand(base.Store.Disk.Sectors, 0), atGen(base, 200)} {
		for at, ticks := range map[int][4]int{0: {0, 1, 999, 1000}, 1: {1, 2, 1000, 1001}, 59000: {59000, 59001, 59999, 60000}, 59001: {59001, 59002, 60000, 60000}, 59999: {59999, 60000, 60000, 60000}, 60000: {60000, 60000, 60000, 60000}} {
			s := withServer(s, func(s *impl.Server) { s.Tick = at })
			for i, by := range []int{0, 1, 999, 1000} {
				want := withServer(s, func(s *impl.Server) { s.Tick = ticks[i] })
				mustServe(t, fmt.Sprintf("at %d", at), s, later(by), serverTold{server: want})
			}
			for _, by := range []int{-1, 1001, -1000, 60000, 1 << 32, math.MinInt, math.MaxInt} {
				mustNotServe(t, fmt.Sprintf("at %d", at), s, later(by), impl.ErrRange)
			}
		}
	}
}

// A crash leaves the sectors and the Tick; what it keeps, of any number, is of
// writes that there are not.
func TestCrashServer(t *testing.T) {
	for what, s := range rightServers() {
		want := downByHand(s.Store.Disk.Sectors, s.Tick)
		for _, n := range []int{0, 1, 60, 500, 501, 4096} {
			mustServe(t, what, s, crashing(slices.Repeat([]int{1}, n)...), serverTold{server: want})
			mustServe(t, what, s, crashing(make([]int, n)...), serverTold{server: want})
		}
		mustServe(t, what, s, crashing(math.MinInt, 0, math.MaxInt), serverTold{server: want})
		mustNotServe(t, what, s, crashing(make([]int, 4097)...), impl.ErrLong)
	}
}

func TestArmServer(t *testing.T) {
	for what, s := range rightServers() {
		for _, keep := range [][]int{nil, {}, {0}, {1}, {math.MinInt, 0, math.MaxInt}, make([]int, 499), slices.Repeat([]int{1}, 500)} {
			want := withServer(s, func(s *impl.Server) { s.Store.Disk.Armed, s.Store.Disk.Keep = true, slices.Clone(keep) })
			mustServe(t, what, s, arming(keep...), serverTold{server: want})
		}
		for _, n := range []int{501, 502, 4096} {
			mustNotServe(t, what, s, arming(make([]int, n)...), impl.ErrMany)
		}
		mustNotServe(t, what, s, arming(make([]int, 4097)...), impl.ErrLong)
	}
	for what, s := range wrongServers() {
		mustNotServe(t, what, s, arming(make([]int, 501)...), impl.ErrBad)
	}
}

// A server that is Up is restarted by nobody.
func TestRestartServerThatIsUp(t *testing.T) {
	for what, s := range rightServers() {
		if s.Up {
			mustStayAs(t, what, s, restarting(), impl.ErrTwice)
			mustStayAs(t, what+", armed", shaken(s, 1), restarting(), impl.ErrTwice)
		}
	}
}

// What lies on the disk is what there is, at any Tick; sessions are new.
func TestRestartServer(t *testing.T) {
	for what, s := range rightServers() {
		if !s.Up {
			continue
		}
		for _, tick := range []int{0, 1, 59999, 60000} {
			down := downByHand(s.Store.Disk.Sectors, tick)
			want := upByHand(s.Store, tick)
			want.Store.Disk.Armed, want.Store.Disk.Keep = false, nil
			mustServe(t, what, down, restarting(), serverTold{server: want})
			mustServe(t, what+", armed", shaken(down, 0, 1), restarting(), serverTold{server: shaken(want, 0, 1)})
		}
	}
}

// Without its newest superblock a server is opened by the one ahead, as a store
// is, if that leads to mail stores.
func TestRestartServerByTheSuperblockAhead(t *testing.T) {
	s := busyTown()
	done := mustServeDue(t, "a user more", s, userMore("dan", "date")).server
	sectors := doneOn(done.Store.Disk.Sectors, write(done.Store.Super.Gen%2, "waste"))
	want := upByHand(s.Store, 33)
	want.Store.Disk = sure(sectors...)
	mustServe(t, "the one ahead", downByHand(sectors, 33), restarting(), serverTold{server: want})
	first := impl.NewServer()
	sectors = doneOn(first.Store.Disk.Sectors, write(1, "waste"))
	mustStayAs(t, "no pairs ahead", downByHand(sectors, 0), restarting(), impl.ErrForm)
}

// Each code of OpenStore, and disks that open to what is no right server: with
// a code the server is as it was.
func TestRestartServerCodes(t *testing.T) {
	base := busyTown().Store
	leaf := 2 + slices.IndexFunc(base.Heap.Nodes, func(n impl.Node) bool { return n.Leaf })
	rows := map[string]struct {
		sectors []string
		code    int
	}{
		"empty sectors":               {make([]string, 52), impl.ErrSum},
		"no superblock":               {doneOn(base.Disk.Sectors, write(0, ""), write(1, "")), impl.ErrSum},
		"waste as superblocks":        {doneOn(base.Disk.Sectors, write(0, "waste"), write(1, long(420))), impl.ErrSum},
		"nodes as superblocks":        {doneOn(base.Disk.Sectors, write(0, nodeText(base.Heap.Nodes[leaf-2])), write(1, "")), impl.ErrSum},
		"a superblock that is wrong":  {doneOn(make([]string, 52), write(1, string(sealedText("s")))), impl.ErrSum},
		"a page that is not read":     {doneOn(base.Disk.Sectors, write(leaf, "waste")), impl.ErrForm},
		"a page that is free":         {doneOn(base.Disk.Sectors, write(leaf, "")), impl.ErrForm},
		"a root that is not there":    {doneOn(make([]string, 52), write(1, superText(super(1, 7)))), impl.ErrForm},
		"a snapshot's root":           {doneOn(impl.NewServer().Store.Disk.Sectors, write(0, superText(super(2, impl.NewServer().Store.Super.Root, snap("a", 49, 0))))), impl.ErrForm},
		"a new store":                 {impl.NewStore().Disk.Sectors, impl.ErrForm},
		"a tree that is none":         {rightStores()["two leaves"].Disk.Sectors, impl.ErrForm},
		"a mail store without v":      {storeOf(mailLess(town(), "v")).Disk.Sectors, impl.ErrForm},
		"a snapshot that is none":     {storeOf(town(), old{"a", 0, keyed("a")}).Disk.Sectors, impl.ErrForm},
		"a snapshot without pairs":    {storeOf(town(), old{"a", 0, nil}).Disk.Sectors, impl.ErrForm},
		"a last snapshot":             {storeOf(town(), old{"a", 0, town()}, old{"b", 0, keyed("a")}).Disk.Sectors, impl.ErrForm},
		"a tree that is none, a town": {storeOf(keyed("a"), old{"a", 0, town()}).Disk.Sectors, impl.ErrForm},
	}
	for what, row := range rows {
		for _, tick := range []int{0, 20, 60000} {
			s := downByHand(row.sectors, tick)
			mustStayAs(t, what, s, restarting(), row.code)
			mustStayAs(t, what+", armed", shaken(s, 1), restarting(), row.code)
		}
	}
	for what, s := range wrongDowns() {
		mustNotServe(t, what, s, restarting(), impl.ErrBad)
	}
}
