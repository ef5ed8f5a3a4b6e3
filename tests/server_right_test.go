package tests

import (
	"fmt"
	"math"
	"slices"
	"testing"

	"loop.example/g00340/impl"
)

// newPairs is the mail store of a new server.
func newPairs() []impl.Pair {
	return pairsOf("f/ann/inbox", "1 1", "f/bob/inbox", "2 1", "u/ann", "apple", "u/bob", "berry", "v", "3")
}

func TestServerConstants(t *testing.T) {
	kinds := []int{impl.AdSnap, impl.AdDrop, impl.AdPrune, impl.AdFolder, impl.AdUser, impl.AdNewUser}
	if !slices.Equal(kinds, []int{1, 2, 3, 4, 5, 6}) {
		t.Error(kinds)
	}
}

func TestNewServer(t *testing.T) {
	s := impl.NewServer()
	want := impl.Server{
		Store: storeOf(newPairs()), Up: true,
		Smtps: []impl.Smtp{{Open: true}, {Open: true}},
		Imaps: []impl.Imap{{Open: true}, {Open: true}},
	}
	mustServer(t, "NewServer", s, want)
	mustLast(t, "NewServer", s)
	if s.Tick != 0 || s.Store.Super.Gen != 1 || len(s.Store.Super.Snaps) != 0 {
		t.Errorf("Tick %d, %v", s.Tick, s.Store.Super)
	}
	list, code := impl.StorePairs(s.Store)
	mustCode(t, "StorePairs", code, impl.OK)
	mustPairs(t, "NewServer", list, newPairs())
	for user, word := range map[string]string{"ann": "apple", "bob": "berry"} {
		if got, code := impl.UserPass(list, user); got != word || code != impl.OK {
			t.Errorf("%s: %q, code %d", user, got, code)
		}
		if names, _ := impl.ListFolders(list, user); !slices.Equal(names, []string{"inbox"}) {
			t.Errorf("%s: %q", user, names)
		}
	}
	for i, user := range []string{"ann", "bob"} {
		if f, _ := impl.FolderAt(list, user, "inbox"); !sameFolder(f, impl.Folder{Name: "inbox", Validity: 1 + i, Next: 1}) {
			t.Errorf("%s: %+v", user, f)
		}
	}
}

// rightServers are of all sorts, those at the edges too.
func rightServers() map[string]impl.Server {
	base := grownTown()
	all := map[string]impl.Server{
		"new":                     impl.NewServer(),
		"a town":                  serverOf(town()),
		"a snapshot":              base,
		"a next validity alone":   serverOf(pairsOf("v", "1")),
		"the last validity":       serverOf(mailWith(town(), "v", "10000")),
		"60 pairs":                serverOf(fullTown(60)),
		"snapshots of one":        serverOf(town(), old{"a", 0, town()}, old{"b", 60000, town()}, old{"c", 1, pairsOf("v", "9")}),
		"4 snapshots":             serverOf(town(), old{"A", 0, newPairs()}, old{"_", 60000, pairsOf("v", "1")}, old{"a", 1, town()}, old{"eight_08", 1, laterTown()}),
		"Tick of 0":               withServer(base, func(s *impl.Server) { s.Tick = 0 }),
		"Tick of 60000":           withServer(base, func(s *impl.Server) { s.Tick = 60000 }),
		"armed":                   shaken(base),
		"armed with Keep":         shaken(base, 1, 0, -1),
		"armed with 500":          shaken(base, make([]int, 500)...),
		"MaxGen":                  atGen(base, 200),
		"one below MaxGen":        atGen(base, 199),
		"no free page":            crowded(base, 0),
		"20 below the root":       deepServer(),
		"all sessions shut":       withServer(base, func(s *impl.Server) { s.Smtps, s.Imaps = make([]impl.Smtp, 2), make([]impl.Imap, 2) }),
		"all sessions at work":    reading(reading(taking(taking(base, 0, telling("x")), 1, to("ann")), 0, inside("ann", "inbox")), 1, known("bob")),
		"sessions of nobody":      reading(taking(base, 1, tellingTo([]string{"none"})), 1, inside("none", "none")),
		"sessions that are alike": reading(reading(taking(taking(base, 0, telling("x")), 1, telling("x")), 0, inside("ann", "inbox")), 1, inside("ann", "inbox")),
		"not Up":                  downByHand(base.Store.Disk.Sectors, 20),
		"not Up, Tick of 0":       downByHand(base.Store.Disk.Sectors, 0),
		"not Up, Tick of 60000":   downByHand(base.Store.Disk.Sectors, 60000),
		"not Up, armed":           withServer(downByHand(base.Store.Disk.Sectors, 20), func(s *impl.Server) { s.Store.Disk.Armed = true }),
		"not Up, armed with Keep": withServer(downByHand(base.Store.Disk.Sectors, 20), func(s *impl.Server) { s.Store.Disk.Armed, s.Store.Disk.Keep = true, []int{1, 0} }),
		"not Up, waste":           downByHand(slices.Repeat([]string{"waste"}, 52), 20),
		"not Up, long sectors":    downByHand(slices.Repeat([]string{long(420)}, 52), 20),
		"not Up, empty sectors":   downByHand(make([]string, 52), 20),
		"not Up, no mail store":   downByHand(rightStores()["two leaves"].Disk.Sectors, 20),
		"not Up, empty lists": withServer(downByHand(base.Store.Disk.Sectors, 20), func(s *impl.Server) {
			s.Store.Disk.Cache, s.Store.Disk.Keep = []impl.Pending{}, []int{}
			s.Store.Super.Snaps, s.Store.Heap.Nodes, s.Smtps, s.Imaps = []impl.Snap{}, []impl.Node{}, []impl.Smtp{}, []impl.Imap{}
		}),
	}
	return all
}

// wrongUps are Up, but not right, each by as little as can be.
func wrongUps() map[string]impl.Server {
	base := grownTown()
	other := func(change func(s *impl.Server)) impl.Server { return withServer(base, change) }
	with := func(store impl.Store) impl.Server { return upByHand(store, 20) }
	out := map[string]impl.Server{
		"Up alone":                    {Up: true},
		"Tick of -1":                  other(func(s *impl.Server) { s.Tick = -1 }),
		"Tick of 60001":               other(func(s *impl.Server) { s.Tick = 60001 }),
		"the least Tick":              other(func(s *impl.Server) { s.Tick = math.MinInt }),
		"the greatest Tick":           other(func(s *impl.Server) { s.Tick = math.MaxInt }),
		"a Tick of 65536 more":        other(func(s *impl.Server) { s.Tick = 65536 + 20 }),
		"no Smtp":                     other(func(s *impl.Server) { s.Smtps = nil }),
		"1 Smtp":                      other(func(s *impl.Server) { s.Smtps = s.Smtps[:1] }),
		"3 Smtps":                     other(func(s *impl.Server) { s.Smtps = append(s.Smtps, impl.NewSmtp()) }),
		"3 Smtps, one wrong":          other(func(s *impl.Server) { s.Smtps = append(s.Smtps, impl.Smtp{Data: true}) }),
		"4097 Smtps":                  other(func(s *impl.Server) { s.Smtps = make([]impl.Smtp, 4097) }),
		"no Imap":                     other(func(s *impl.Server) { s.Imaps = []impl.Imap{} }),
		"1 Imap":                      other(func(s *impl.Server) { s.Imaps = s.Imaps[1:] }),
		"3 Imaps":                     other(func(s *impl.Server) { s.Imaps = append(s.Imaps, impl.NewImap()) }),
		"3 Imaps, one wrong":          other(func(s *impl.Server) { s.Imaps = append(s.Imaps, impl.Imap{Folder: "inbox"}) }),
		"4097 Imaps":                  other(func(s *impl.Server) { s.Imaps = make([]impl.Imap, 4097) }),
		"no session":                  other(func(s *impl.Server) { s.Smtps, s.Imaps = nil, nil }),
		"nothing but the disk":        other(func(s *impl.Server) { s.Store.Super, s.Store.Heap = impl.Super{}, impl.Heap{} }),
		"a tree without pairs":        with(impl.NewStore()),
		"a tree that is none":         with(rightStores()["two leaves"]),
		"no next validity":            with(storeOf(mailLess(town(), "v"))),
		"a user without an inbox":     with(storeOf(mailLess(newPairs(), "f/bob/inbox"))),
		"a folder of nobody":          with(storeOf(mailLess(newPairs(), "u/bob"))),
		"a validity that is not":      with(storeOf(mailWith(newPairs(), "v", "2"))),
		"a snapshot without pairs":    with(storeOf(town(), old{"a", 0, nil})),
		"a snapshot that is none":     with(storeOf(town(), old{"a", 0, keyed("a", "b")})),
		"a first snapshot":            with(storeOf(town(), old{"a", 0, mailLess(town(), "v")}, old{"b", 0, town()})),
		"a last snapshot":             with(storeOf(town(), old{"a", 0, town()}, old{"b", 0, mailLess(newPairs(), "f/ann/inbox")})),
		"a snapshot of a leaf's":      with(stored(super(9, 0, snap("one", 2, 3)), deepServer().Store.Heap)),
		"two trees that are none":     with(storeOf(keyed("a"), old{"a", 0, keyed("b")})),
		"a tree that is none, a town": with(storeOf(keyed("a"), old{"a", 0, town()})),
	}
	for what, s := range wrongStores() {
		out["a store that is not right: "+what] = with(s)
	}
	for what, change := range disksOfNoStore() {
		out["a disk that is not right: "+what] = other(func(s *impl.Server) { change(&s.Store.Disk) })
	}
	return out
}

// disksOfNoStore change a disk to one that OpenStore does not ask.
func disksOfNoStore() map[string]func(d *impl.Disk) {
	return map[string]func(d *impl.Disk){
		"none":                   func(d *impl.Disk) { *d = impl.Disk{} },
		"51 sectors":             func(d *impl.Disk) { d.Sectors = d.Sectors[:51] },
		"53 sectors":             func(d *impl.Disk) { d.Sectors = append(d.Sectors, "") },
		"80 sectors":             func(d *impl.Disk) { d.Sectors = append(d.Sectors, make([]string, 28)...) },
		"a sector of 421 bytes":  func(d *impl.Disk) { d.Sectors[51] = long(421) },
		"a write":                func(d *impl.Disk) { d.Cache = []impl.Pending{write(51, "x")} },
		"a write of what stands": func(d *impl.Disk) { d.Cache = []impl.Pending{write(0, d.Sectors[0])} },
		"a write beyond":         func(d *impl.Disk) { d.Cache = []impl.Pending{write(52, "")} },
		"501 writes":             func(d *impl.Disk) { d.Cache = make([]impl.Pending, 501) },
		"Keep without Armed":     func(d *impl.Disk) { d.Keep = []int{1} },
		"501 numbers of Keep":    func(d *impl.Disk) { d.Armed, d.Keep = true, make([]int, 501) },
	}
}

// wrongDowns are not Up, and not right.
func wrongDowns() map[string]impl.Server {
	base := downByHand(grownTown().Store.Disk.Sectors, 20)
	other := func(change func(s *impl.Server)) impl.Server { return withServer(base, change) }
	up := grownTown()
	out := map[string]impl.Server{
		"nothing":           {},
		"Tick alone":        {Tick: 20},
		"Tick of -1":        other(func(s *impl.Server) { s.Tick = -1 }),
		"Tick of 60001":     other(func(s *impl.Server) { s.Tick = 60001 }),
		"the least Tick":    other(func(s *impl.Server) { s.Tick = math.MinInt }),
		"Gen":               other(func(s *impl.Server) { s.Store.Super.Gen = 1 }),
		"Gen below":         other(func(s *impl.Server) { s.Store.Super.Gen = -1 }),
		"Root":              other(func(s *impl.Server) { s.Store.Super.Root = 1 }),
		"Root of -1":        other(func(s *impl.Server) { s.Store.Super.Root = -1 }),
		"a snapshot":        other(func(s *impl.Server) { s.Store.Super.Snaps = []impl.Snap{{}} }),
		"the superblock":    other(func(s *impl.Server) { s.Store.Super = up.Store.Super }),
		"a free node":       other(func(s *impl.Server) { s.Store.Heap.Nodes = make([]impl.Node, 1) }),
		"free nodes":        other(func(s *impl.Server) { s.Store.Heap = impl.NewHeap() }),
		"the heap":          other(func(s *impl.Server) { s.Store.Heap = up.Store.Heap }),
		"the whole store":   other(func(s *impl.Server) { s.Store = up.Store }),
		"an empty Smtp":     other(func(s *impl.Server) { s.Smtps = make([]impl.Smtp, 1) }),
		"an empty Imap":     other(func(s *impl.Server) { s.Imaps = make([]impl.Imap, 1) }),
		"new Smtps":         other(func(s *impl.Server) { s.Smtps = up.Smtps }),
		"new Imaps":         other(func(s *impl.Server) { s.Imaps = up.Imaps }),
		"all but Up":        withServer(up, func(s *impl.Server) { s.Up = false }),
		"all but the store": other(func(s *impl.Server) { s.Smtps, s.Imaps = up.Smtps, up.Imaps }),
	}
	for what, change := range disksOfNoStore() {
		out["a disk: "+what] = other(func(s *impl.Server) { change(&s.Store.Disk) })
	}
	return out
}

// wrongServers are all of these, with sessions that are not right too.
func wrongServers() map[string]impl.Server {
	out := wrongUps()
	for what, s := range wrongDowns() {
		out["not Up: "+what] = s
	}
	base := grownTown()
	for what, session := range wrongSmtps() {
		for k := range 2 {
			out[fmt.Sprintf("Smtp %d: %s", k, what)] = taking(base, k, session)
		}
	}
	for what, session := range wrongImaps() {
		for k := range 2 {
			out[fmt.Sprintf("Imap %d: %s", k, what)] = reading(base, k, session)
		}
	}
	return out
}

func TestRightServers(t *testing.T) {
	for what, s := range rightServers() {
		if !impl.ServerOK(s) || !serverByHand(s) {
			t.Errorf("%s: not right", what)
		}
		if s.Up {
			mustLast(t, what, s)
		}
	}
	base := grownTown()
	for k := range 2 {
		for what, session := range rightSmtps() {
			if s := taking(base, k, session); !impl.ServerOK(s) || !serverByHand(s) {
				t.Errorf("Smtp %d: %s: not right", k, what)
			}
		}
		for what, session := range rightImaps() {
			if s := reading(base, k, session); !impl.ServerOK(s) || !serverByHand(s) {
				t.Errorf("Imap %d: %s: not right", k, what)
			}
		}
	}
}

// serverAsks are calls of all sorts that are done on most servers, or have a
// code.
func serverAsks() []serverAsk {
	asks := []serverAsk{
		toTaker(0, "noop"), toTaker(1, "helo me"), toTaker(0, "."), toTaker(1, ""), toTaker(-1, "noop"), toTaker(2, "noop"), toTaker(0, long(61)), toTaker(0, long(65536)),
		toReader(0, "a noop"), toReader(1, "a login ann apple"), toReader(0, "a create far"), toReader(0, ""), toReader(-1, "a noop"), toReader(2, "a noop"), toReader(1, long(61)), toReader(1, long(65536)),
		later(0), later(1), later(1000), later(-1), later(1001), crashing(), crashing(1, 0, 1), crashing(make([]int, 501)...), crashing(make([]int, 4096)...),
		arming(), arming(1, 0, 1), arming(make([]int, 500)...), arming(make([]int, 501)...), arming(make([]int, 4096)...), restarting(),
	}
	for kind := -1; kind <= 8; kind++ {
		asks = append(asks, toAdmin(impl.Admin{Kind: kind, Before: 8, Name: "one", User: "ann", Folder: "inbox"}), toAdmin(impl.Admin{Kind: kind}))
	}
	return append(asks, toAdmin(impl.Admin{Kind: 1, Name: "new"}), toAdmin(impl.Admin{Kind: 6, User: "new", Name: "word"}),
		toAdmin(impl.Admin{Kind: 4, Name: "one", User: "none", Folder: "inbox"}), toAdmin(impl.Admin{Kind: 4, Name: "one", User: "ann", Folder: "none"}), toAdmin(impl.Admin{Kind: 5, Name: "one", User: "none"}))
}

// Each call of a server that is not right is ErrBad, with nothing, whatever
// else it is given; a text or a list that is too long is told ahead.
func TestWrongServers(t *testing.T) {
	asks := serverAsks()
	for what, s := range wrongServers() {
		if impl.ServerOK(s) || serverByHand(s) {
			t.Errorf("%s: right", what)
		}
		for _, a := range asks {
			if got := a.do(s); !sameServerTold(got, serverTold{code: impl.ErrBad}) {
				mustServerTold(t, what+": "+a.String(), got, serverTold{code: impl.ErrBad})
			}
		}
	}
	for what, s := range wrongDowns() {
		for _, a := range tooLong() {
			mustNotServe(t, what, s, a, impl.ErrLong)
		}
	}
}

// tooLong are calls that are given too much, with what is wrong beside it.
func tooLong() []serverAsk {
	text, list := long(65537), make([]int, 4097)
	return []serverAsk{toTaker(0, text), toTaker(1, text), toTaker(-1, text), toTaker(2, text), toReader(0, text), toReader(1, text), toReader(-1, text), toReader(2, "a noop"+text), crashing(list...), arming(list...)}
}

// All right servers and all calls together.
func TestServersAndCallsTogether(t *testing.T) {
	t.Parallel()
	codes := map[int]int{}
	for what, s := range rightServers() {
		for _, a := range append(serverAsks(), tooLong()...) {
			codes[mustServeDue(t, what, s, a).code]++
		}
		if t.Failed() {
			return
		}
	}
	for _, code := range []int{impl.OK, impl.ErrLong, impl.ErrForm, impl.ErrRange, impl.ErrNone, impl.ErrMany, impl.ErrFull, impl.ErrSum, impl.ErrTwice, impl.ErrDown, impl.ErrName, impl.ErrUser, impl.ErrFolder} {
		if codes[code] == 0 {
			t.Errorf("no call is answered with code %d (%s): %v", code, impl.CodeWord(code), codes)
		}
	}
}
