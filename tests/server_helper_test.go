package tests

import (
	"fmt"
	"slices"
	"testing"

	"loop.example/g00340/impl"
)

// serverAsk is a call of chapter 12 with its arguments. What a call does not
// take is left out.
type serverAsk struct {
	call  string
	k, by int
	line  string
	admin impl.Admin
	keep  []int
}

// serverTold is all that a call of chapter 12 may answer.
type serverTold struct {
	server impl.Server
	reply  string
	said   []string
	code   int
}

func toTaker(k int, line string) serverAsk { return serverAsk{call: "SmtpLine", k: k, line: line} }

func toReader(k int, line string) serverAsk { return serverAsk{call: "ImapLine", k: k, line: line} }

func toAdmin(a impl.Admin) serverAsk { return serverAsk{call: "AdminDo", admin: a} }

func later(by int) serverAsk { return serverAsk{call: "TickServer", by: by} }

func crashing(keep ...int) serverAsk { return serverAsk{call: "CrashServer", keep: keep} }

func arming(keep ...int) serverAsk { return serverAsk{call: "ArmServer", keep: keep} }

func restarting() serverAsk { return serverAsk{call: "RestartServer"} }

func (a serverAsk) String() string {
	switch a.call {
	case "SmtpLine", "ImapLine":
		return fmt.Sprintf("%s(%d, %.40q)", a.call, a.k, a.line)
	case "AdminDo":
		return fmt.Sprintf("AdminDo(%d, %d, %.10q, %.10q, %.10q)", a.admin.Kind, a.admin.Before, a.admin.Name, a.admin.User, a.admin.Folder)
	case "TickServer":
		return fmt.Sprintf("TickServer(%d)", a.by)
	case "RestartServer":
		return a.call
	}
	return fmt.Sprintf("%s(%d numbers)", a.call, len(a.keep))
}

func (a serverAsk) do(s impl.Server) (told serverTold) {
	switch a.call {
	case "SmtpLine":
		told.server, told.reply, told.code = impl.SmtpLine(s, a.k, a.line)
	case "ImapLine":
		told.server, told.said, told.code = impl.ImapLine(s, a.k, a.line)
	case "AdminDo":
		told.server, told.code = impl.AdminDo(s, a.admin)
	case "TickServer":
		told.server, told.code = impl.TickServer(s, a.by)
	case "CrashServer":
		told.server, told.code = impl.CrashServer(s, a.keep)
	case "ArmServer":
		told.server, told.code = impl.ArmServer(s, a.keep)
	case "RestartServer":
		told.server, told.code = impl.RestartServer(s)
	default:
		panic(a.call)
	}
	return told
}

func cloneServer(s impl.Server) impl.Server {
	s.Store = cloneStore(s.Store)
	s.Smtps = slices.Clone(s.Smtps)
	for i := range s.Smtps {
		s.Smtps[i] = cloneSmtp(s.Smtps[i])
	}
	s.Imaps = slices.Clone(s.Imaps)
	return s
}

func withServer(s impl.Server, change func(s *impl.Server)) impl.Server {
	s = cloneServer(s)
	change(&s)
	return s
}

func sameServer(a, b impl.Server) bool {
	return a.Up == b.Up && a.Tick == b.Tick && sameStore(a.Store, b.Store) && slices.EqualFunc(a.Smtps, b.Smtps, sameSmtp) && slices.Equal(a.Imaps, b.Imaps)
}

func sameServerTold(a, b serverTold) bool {
	return a.code == b.code && a.reply == b.reply && slices.Equal(a.said, b.said) && sameServer(a.server, b.server)
}

// mustServer tells in what servers are not alike.
func mustServer(t *testing.T, what string, got, want impl.Server) {
	t.Helper()
	if sameServer(got, want) {
		return
	}
	mustStore(t, what, got.Store, want.Store)
	t.Errorf("%.200s: Up %t, Tick %d, sessions %.300q, not %t, %d, %.300q", what, got.Up, got.Tick, fmt.Sprint(got.Smtps, got.Imaps), want.Up, want.Tick, fmt.Sprint(want.Smtps, want.Imaps))
}

func mustServerTold(t *testing.T, what string, got, want serverTold) {
	t.Helper()
	mustCode(t, what, got.code, want.code)
	mustServer(t, what, got.server, want.server)
	if got.reply != want.reply || !slices.Equal(got.said, want.said) {
		t.Errorf("%.200s: %q is said, %q, not %q, %q", what, got.reply, got.said, want.reply, want.said)
	}
}

// upByHand gives the server that is Up on a store, with new sessions.
func upByHand(store impl.Store, tick int) impl.Server {
	return impl.Server{Store: cloneStore(store), Up: true, Tick: tick, Smtps: []impl.Smtp{{Open: true}, {Open: true}}, Imaps: []impl.Imap{{Open: true}, {Open: true}}}
}

// downByHand gives the server that is not Up, with these sectors.
func downByHand(sectors []string, tick int) impl.Server {
	return impl.Server{Store: impl.Store{Disk: sure(slices.Clone(sectors)...)}, Tick: tick}
}

// serverByHand tells whether a server is right, by what may not be.
func serverByHand(s impl.Server) bool {
	store := s.Store
	wrong := s.Tick < 0 || s.Tick > 60000
	if !s.Up {
		wrong = wrong || !impl.DiskOK(store.Disk) || len(store.Disk.Sectors) != 52 || len(store.Disk.Cache) != 0
		wrong = wrong || !sameSuper(store.Super, impl.Super{}) || len(store.Heap.Nodes) != 0
		return !wrong && len(s.Smtps) == 0 && len(s.Imaps) == 0
	}
	wrong = wrong || len(s.Smtps) != 2 || len(s.Imaps) != 2 || !impl.StoreOK(store)
	wrong = wrong || !smtpByHand(s.Smtps[0]) || !smtpByHand(s.Smtps[1]) || !imapByHand(s.Imaps[0]) || !imapByHand(s.Imaps[1])
	return !wrong && !slices.ContainsFunc(rootsOf(store.Super), func(root int) bool { return !mailByHand(pairsBelow(store.Heap, root)) })
}

// byHand gives what the call is to answer.
func (a serverAsk) byHand(s impl.Server) serverTold {
	if code := a.fault(s); code != impl.OK {
		return serverTold{code: code}
	}
	told := serverTold{server: cloneServer(s)}
	out := &told.server
	if !s.Up && slices.Contains([]string{"SmtpLine", "ImapLine", "AdminDo"}, a.call) {
		told.code = impl.ErrDown
		return told
	}
	switch a.call {
	case "SmtpLine":
		told.smtpByHand(a)
	case "ImapLine":
		told.imapByHand(a)
	case "AdminDo":
		told.code = told.adminByHand(a.admin)
	case "TickServer":
		out.Tick += a.by
		if out.Tick > 60000 {
			out.Tick = 60000
		}
	case "CrashServer":
		*out = downByHand(s.Store.Disk.Sectors, s.Tick)
	case "ArmServer":
		out.Store.Disk.Armed, out.Store.Disk.Keep = true, slices.Clone(a.keep)
	case "RestartServer":
		told.restartByHand()
	}
	return told
}

// fault finds those with which nothing at all is answered.
func (a serverAsk) fault(s impl.Server) int {
	line := a.call == "SmtpLine" || a.call == "ImapLine"
	switch {
	case len(a.line) > 65536 || len(a.keep) > 4096:
		return impl.ErrLong
	case !serverByHand(s):
		return impl.ErrBad
	case line && a.k != 0 && a.k != 1 || a.call == "TickServer" && (a.by < 0 || a.by > 1000):
		return impl.ErrRange
	case a.call == "ArmServer" && len(a.keep) > 500:
		return impl.ErrMany
	}
	return impl.OK
}

func treePairs(s impl.Store) []impl.Pair { return pairsBelow(s.Heap, s.Super.Root) }

// settleByHand takes over what a commit led to.
func (told *serverTold) settleByHand(store impl.Store, alive bool, code int) int {
	if code != impl.OK {
		return code
	}
	if !alive {
		told.server = downByHand(store.Disk.Sectors, told.server.Tick)
		return impl.ErrDown
	}
	told.server.Store = cloneStore(store)
	return impl.OK
}

// commitByHand commits a mail store, unless it is the one that there is.
func (told *serverTold) commitByHand(list []impl.Pair) int {
	store := told.server.Store
	if slices.Equal(list, treePairs(store)) {
		return impl.OK
	}
	if store.Super.Gen < 200 && growsTooDeep(store, list) {
		return impl.ErrBad
	}
	return told.settleByHand(putByHand(store, list))
}

// growsTooDeep tells whether a change on the way to these pairs leads to a tree
// with a part 21 below its root: that is none, and can't be committed.
func growsTooDeep(s impl.Store, list []impl.Pair) bool {
	h, root := s.Heap, s.Super.Root
	steps, drops := stepsBetween(treePairs(s), list)
	for i, p := range steps {
		var code int
		h, root, code = changeByHand(h, root, rootsOf(s.Super), p, i < drops)
		if code != impl.OK {
			return false
		}
		if deepest(h, root) > 20 {
			return true
		}
	}
	return false
}

func deepest(h impl.Heap, root int) int {
	most := 0
	if root >= 0 {
		for _, page := range h.Nodes[root].Kids {
			most = max(most, 1+deepest(h, page))
		}
	}
	return most
}

func (told *serverTold) smtpByHand(a serverAsk) {
	behind := heardByHand(treePairs(told.server.Store), told.server.Smtps[a.k], a.line)
	switch told.commitByHand(behind.pairs) {
	case impl.OK:
		told.reply = behind.reply
	case impl.ErrDown:
		told.code = impl.ErrDown
		return
	default:
		told.reply = "452 no room"
	}
	told.server.Smtps[a.k] = behind.session
}

func (told *serverTold) imapByHand(a serverAsk) {
	behind := readByHand(treePairs(told.server.Store), told.server.Imaps[a.k], a.line)
	code := told.commitByHand(behind.pairs)
	switch code {
	case impl.OK:
		told.said = behind.said
		told.server.Imaps[a.k] = behind.session
	case impl.ErrDown:
		told.code = impl.ErrDown
	default:
		told.said = []string{taggedForm.FindStringSubmatch(a.line)[1] + " NO " + impl.CodeWord(code)}
	}
}

func noneShort(names ...string) bool {
	return slices.ContainsFunc(names, func(name string) bool { return !shortWord.MatchString(name) })
}

func (told *serverTold) adminByHand(a impl.Admin) int {
	store := told.server.Store
	switch a.Kind {
	case 1:
		if noneShort(a.Name) {
			return impl.ErrName
		}
		return told.settleByHand(take(a.Name, told.server.Tick).hand(store))
	case 2:
		return told.settleByHand(dropSnap(a.Name).hand(store))
	case 3:
		return told.settleByHand(prune(a.Before).hand(store))
	case 4, 5:
		return told.restoredByHand(a)
	case 6:
		if noneShort(a.User, a.Name) {
			return impl.ErrName
		}
		added := mailAsk{call: "AddUser", user: a.User, other: a.Name}.byHand(treePairs(store))
		if added.code != impl.OK {
			return added.code
		}
		return told.commitByHand(added.pairs)
	}
	return impl.ErrForm
}

func (told *serverTold) restoredByHand(a impl.Admin) int {
	store := told.server.Store
	at := slices.IndexFunc(store.Super.Snaps, func(p impl.Snap) bool { return p.Name == a.Name })
	ask := restoreAsk{user: a.User, folder: a.Folder, all: a.Kind == 5}
	if at < 0 {
		return impl.ErrNone
	}
	if noneShort(ask.needs()...) {
		return impl.ErrName
	}
	list, code := ask.byHand(treePairs(store), pairsBelow(store.Heap, store.Super.Snaps[at].Root))
	if code != impl.OK {
		return code
	}
	return told.commitByHand(list)
}

func (told *serverTold) restartByHand() {
	if told.server.Up {
		told.code = impl.ErrTwice
		return
	}
	store, code := impl.OpenStore(told.server.Store.Disk)
	up := upByHand(store, told.server.Tick)
	switch {
	case code != impl.OK:
		told.code = code
	case !serverByHand(up):
		told.code = impl.ErrForm
	default:
		told.server = up
	}
}

// mustServe asks a call and holds it against what is wanted, and what is wanted
// against the call that is done by hand; what is answered must last.
func mustServe(t *testing.T, what string, s impl.Server, a serverAsk, want serverTold) serverTold {
	t.Helper()
	got := a.do(s)
	mustServerTold(t, what+": "+a.String(), got, want)
	if due := a.byHand(s); !sameServerTold(due, want) {
		mustServerTold(t, what+": "+a.String()+" by hand", due, want)
	}
	if !sameServer(got.server, impl.Server{}) {
		mustLast(t, what+": "+a.String(), got.server)
	}
	return got
}

// mustServeDue asks a call for what is done by hand.
func mustServeDue(t *testing.T, what string, s impl.Server, a serverAsk) serverTold {
	t.Helper()
	return mustServe(t, what, s, a, a.byHand(s))
}

// mustNotServe asks for a code, with which nothing is answered.
func mustNotServe(t *testing.T, what string, s impl.Server, a serverAsk, code int) {
	t.Helper()
	mustServe(t, what, s, a, serverTold{code: code})
}

// mustStayAs asks for a code, with which the server is as it was.
func mustStayAs(t *testing.T, what string, s impl.Server, a serverAsk, code int) {
	t.Helper()
	mustServe(t, what, s, a, serverTold{server: s, code: code})
}

// mustLast asks what holds of each server that is answered: it is right, and
// behind any crash there is all that there was, with the snapshots, the Tick,
// and new sessions.
func mustLast(t *testing.T, what string, s impl.Server) {
	t.Helper()
	if !impl.ServerOK(s) || !serverByHand(s) {
		t.Errorf("%.200s: no right server is answered", what)
		return
	}
	if !s.Up {
		return
	}
	want := upByHand(s.Store, s.Tick)
	want.Store.Disk.Armed, want.Store.Disk.Keep = false, nil
	for _, keep := range [][]int{nil, slices.Repeat([]int{1}, 60), {0, 1, 0, -1}} {
		down, code := impl.CrashServer(s, keep)
		mustCode(t, what+", crashed", code, impl.OK)
		mustServer(t, what+", crashed", down, downByHand(s.Store.Disk.Sectors, s.Tick))
		up, code := impl.RestartServer(down)
		mustCode(t, what+", restarted", code, impl.OK)
		mustServer(t, what+", restarted", up, want)
	}
}

// old is a mail store that a snapshot has.
type old struct {
	name  string
	tick  int
	pairs []impl.Pair
}

// storeOf gives the store of a mail store, with snapshots of others that came
// ahead of it.
func storeOf(list []impl.Pair, olds ...old) impl.Store {
	s := stored(super(0, -1), laidOn(nil))
	put := func(list []impl.Pair) {
		next, _, code := putByHand(s, list)
		if code != impl.OK {
			panic(impl.CodeWord(code))
		}
		s = next
	}
	for _, o := range olds {
		put(o.pairs)
		s, _, _ = take(o.name, o.tick).hand(s)
	}
	put(list)
	return s
}

func serverOf(list []impl.Pair, olds ...old) impl.Server { return upByHand(storeOf(list, olds...), 20) }

// packed gives the server of a mail store and of snapshots, each in a tree with
// as few pages as can be.
func packed(list []impl.Pair, olds ...old) impl.Server {
	h := laidOn(nil)
	next := super(9, layPacked(h, list))
	for _, o := range olds {
		next.Snaps = append(next.Snaps, snap(o.name, layPacked(h, o.pairs), o.tick))
	}
	return upByHand(stored(next, h), 20)
}

func layPacked(h impl.Heap, list []impl.Pair) int {
	if len(list) == 0 {
		return -1
	}
	var row []kid
	for some := range slices.Chunk(list, 3) {
		row = append(row, kid{layFirst(h, impl.Node{Leaf: true, Pairs: some}), some[0].Key})
	}
	for len(row) > 1 {
		var above []kid
		for some := range slices.Chunk(row, 4) {
			above = append(above, kid{layFirst(h, inner(some...)), some[0].least})
		}
		row = above
	}
	return row[0].page
}

// layFirst lays a node on the first page that is free.
func layFirst(h impl.Heap, n impl.Node) int {
	page := slices.IndexFunc(h.Nodes, func(n impl.Node) bool { return sameNode(n, impl.Node{}) })
	h.Nodes[page] = cloneNode(n)
	return page
}

// grownTown has changed since its snapshot was taken.
func grownTown() impl.Server { return serverOf(laterTown(), old{"one", 7, town()}) }

// atGen gives a server whose superblock is of another Gen.
func atGen(s impl.Server, gen int) impl.Server {
	next := cloneSuper(s.Store.Super)
	next.Gen = gen
	s = cloneServer(s)
	s.Store = stored(next, s.Store.Heap)
	return s
}

// crowded gives a server on whose store only so many pages are free: chains to
// a next validity alone, which snapshots have, lie on the others.
func crowded(s impl.Server, free int) impl.Server {
	h, next := cloneHeap(s.Store.Heap), cloneSuper(s.Store.Super)
	var pages []int
	for page, n := range h.Nodes {
		if sameNode(n, impl.Node{}) {
			pages = append(pages, page)
		}
	}
	for some := range slices.Chunk(pages[free:], 21) {
		chain(h, "v", some...)
		h.Nodes[some[len(some)-1]].Pairs = pairsOf("v", "1")
		next.Snaps = append(next.Snaps, snap(fmt.Sprintf("z%d", len(next.Snaps)), some[0], 1))
	}
	s = cloneServer(s)
	s.Store = stored(next, h)
	return s
}

// deepServer has a part 20 below its root, and full leaves beside it: what
// parts one of them parts the root, and can't be committed then.
func deepServer() impl.Server {
	h := laidOn(map[int]impl.Node{
		0: inner(kid{1, "f/ann/inbox"}, kid{2, "m/ann/inbox/001"}, kid{3, "u/ann"}, kid{10, "v"}),
		1: {Leaf: true, Pairs: pairsOf("f/ann/inbox", "1 4", "f/ann/work", "3 1", "f/bob/inbox", "2 1")},
		2: {Leaf: true, Pairs: pairsOf("m/ann/inbox/001", "0one", "m/ann/inbox/002", "0two", "m/ann/inbox/003", "2three")},
		3: {Leaf: true, Pairs: pairsOf("u/ann", "apple", "u/bob", "berry")},
		4: {Leaf: true, Pairs: pairsOf("f/ann/inbox", "1 6", "m/ann/inbox/001", "0one", "m/ann/inbox/002", "0two")},
		5: {Leaf: true, Pairs: pairsOf("m/ann/inbox/003", "2three", "m/ann/inbox/004", "0four", "m/ann/inbox/005", "0five")},
		6: {Leaf: true, Pairs: pairsOf("u/ann", "apple", "v", "2")},
		7: inner(kid{4, "f/ann/inbox"}, kid{5, "m/ann/inbox/003"}, kid{6, "u/ann"}),
	})
	var pages []int
	for page := 10; page < 30; page++ {
		pages = append(pages, page)
	}
	chain(h, "v", pages...)
	h.Nodes[29].Pairs = pairsOf("v", "4")
	return upByHand(stored(super(9, 0, snap("one", 7, 3)), h), 20)
}

// shaken gives a server whose disk is armed.
func shaken(s impl.Server, keep ...int) impl.Server {
	s = cloneServer(s)
	s.Store.Disk.Armed, s.Store.Disk.Keep = true, keep
	return s
}

// taking and reading give a server with another session at a place.
func taking(s impl.Server, k int, session impl.Smtp) impl.Server {
	return withServer(s, func(s *impl.Server) { s.Smtps[k] = cloneSmtp(session) })
}

func reading(s impl.Server, k int, session impl.Imap) impl.Server {
	return withServer(s, func(s *impl.Server) { s.Imaps[k] = session })
}
