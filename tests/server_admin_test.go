package tests

import (
	"fmt"
	"math"
	"testing"

	"loop.example/g00340/impl"
)

// The acts of an administrator.

func snapNow(name string) serverAsk { return toAdmin(impl.Admin{Kind: impl.AdSnap, Name: name}) }

func snapGone(name string) serverAsk { return toAdmin(impl.Admin{Kind: impl.AdDrop, Name: name}) }

func pruneNow(before int) serverAsk {
	return toAdmin(impl.Admin{Kind: impl.AdPrune, Before: before})
}

func folderBack(name, user, folder string) serverAsk {
	return toAdmin(impl.Admin{Kind: impl.AdFolder, Name: name, User: user, Folder: folder})
}

func userBack(name, user string) serverAsk {
	return toAdmin(impl.Admin{Kind: impl.AdUser, Name: name, User: user})
}

func userMore(user, word string) serverAsk {
	return toAdmin(impl.Admin{Kind: impl.AdNewUser, User: user, Name: word})
}

// goodActs are done on grownTown, one of each Kind.
func goodActs() []serverAsk {
	return []serverAsk{snapNow("two"), snapGone("one"), pruneNow(8), folderBack("one", "ann", "inbox"), userBack("one", "ann"), userMore("dan", "date")}
}

// mustAct asks for what an act leads to: the store, and all else as it was.
func mustAct(t *testing.T, what string, s impl.Server, a serverAsk, store impl.Store) impl.Server {
	t.Helper()
	want := withServer(s, func(s *impl.Server) { s.Store = cloneStore(store) })
	return mustServe(t, what, s, a, serverTold{server: want}).server
}

// Each Kind does what its call does, by one commit; sessions, Tick and all else
// are as they were.
func TestAdminActs(t *testing.T) {
	plain := grownTown()
	busy := reading(taking(plain, 1, telling("x")), 0, inside("ann", "inbox"))
	for _, s := range []impl.Server{plain, busy, withServer(busy, func(s *impl.Server) { s.Tick = 60000 }), atGen(plain, 199)} {
		store := s.Store
		taken, _, _ := impl.TakeSnap(store, "two", s.Tick)
		dropped, _, _ := impl.DropSnap(store, "one")
		restored, _ := impl.RestoreFolder(laterTown(), town(), "ann", "inbox")
		folder, _, _ := impl.PutPairs(store, restored)
		restored, _ = impl.RestoreUser(laterTown(), town(), "ann")
		user, _, _ := impl.PutPairs(store, restored)
		added, _ := impl.AddUser(laterTown(), "dan", "date")
		more, _, _ := impl.PutPairs(store, added)
		for i, next := range []impl.Store{taken, dropped, dropped, folder, user, more} {
			got := mustAct(t, "each Kind", s, goodActs()[i], next)
			if got.Store.Super.Gen != store.Super.Gen+1 {
				t.Errorf("%s: Gen %d", goodActs()[i], got.Store.Super.Gen)
			}
		}
	}
}

// What an act does not take is not looked at.
func TestAdminsLookAtTheirOwnAlone(t *testing.T) {
	s := grownTown()
	other := impl.Admin{Before: -1, Name: "9", User: long(65537), Folder: "\xff"}
	for _, a := range goodActs() {
		b := a.admin
		switch b.Kind {
		case impl.AdSnap, impl.AdDrop:
			b.Before, b.User, b.Folder = other.Before, other.User, other.Folder
		case impl.AdPrune:
			b.Name, b.User, b.Folder = other.Name, other.User, other.Folder
		case impl.AdFolder:
			b.Before = other.Before
		default:
			b.Before, b.Folder = other.Before, other.Folder
		}
		mustServe(t, "other parts", s, toAdmin(b), a.byHand(s))
	}
}

// A snapshot is taken at the Tick, in its place, and is found when all is
// restored.
func TestAdminSnapshots(t *testing.T) {
	s := impl.NewServer()
	s = mustServeDue(t, "tick", s, later(7)).server
	s = mustServeDue(t, "first", s, snapNow("one")).server
	s = mustServeDue(t, "folder", reading(s, 0, known("ann")), toReader(0, "a create work")).server
	s = mustServeDue(t, "tick", s, later(1000)).server
	s = mustServeDue(t, "second", s, snapNow("ahead")).server
	snaps := s.Store.Super.Snaps
	if len(snaps) != 2 || snaps[0].Name != "ahead" || snaps[0].Tick != 1007 || snaps[1].Name != "one" || snaps[1].Tick != 7 {
		t.Errorf("%v", snaps)
	}
	s = mustServeDue(t, "back", s, userBack("one", "ann")).server
	list, _ := impl.StorePairs(s.Store)
	mustPairs(t, "restored", list, pairsOf("f/ann/inbox", "4 1", "f/bob/inbox", "2 1", "u/ann", "apple", "u/bob", "berry", "v", "5"))
	s = mustServeDue(t, "again", s, userBack("ahead", "ann")).server
	list, _ = impl.StorePairs(s.Store)
	mustPairs(t, "restored", list, pairsOf("f/ann/inbox", "5 1", "f/ann/work", "6 1", "f/bob/inbox", "2 1", "u/ann", "apple", "u/bob", "berry", "v", "7"))
	mustStayAs(t, "nothing as old", s, pruneNow(7), impl.ErrNone)
	s = mustServeDue(t, "pruned", s, pruneNow(8)).server
	mustStayAs(t, "pruned", s, userBack("one", "ann"), impl.ErrNone)
	s = mustServeDue(t, "dropped", s, snapGone("ahead")).server
	if len(s.Store.Super.Snaps) != 0 {
		t.Errorf("%v", s.Store.Super.Snaps)
	}
}

// A user that an administrator adds is there for all sessions at once.
func TestAdminsAddUsers(t *testing.T) {
	s := impl.NewServer()
	mustTold(t, "not yet", s, 0, "a login cid cherry", newcomer(), "a NO user")
	s = mustServeDue(t, "added", s, userMore("cid", "cherry")).server
	mustTold(t, "there", s, 0, "a login cid cherry", known("cid"), "a OK")
	mustReply(t, "there", taking(s, 1, from("me")), 1, "rcpt to:<cid>", "250 ok", to("cid"))
	mustStayAs(t, "twice", s, userMore("cid", "cherry"), impl.ErrTwice)
	mustStayAs(t, "twice, another word", s, userMore("cid", "cider"), impl.ErrTwice)
	mustStayAs(t, "twice, from the beginning on", s, userMore("ann", "apple"), impl.ErrTwice)
}

// Kinds that are none: ahead of them comes only that there is no power.
func TestOtherKinds(t *testing.T) {
	down := downByHand(grownTown().Store.Disk.Sectors, 20)
	for _, kind := range []int{0, -1, 7, 8, 257, 1<<32 + 1, -6, math.MinInt, math.MaxInt} {
		for _, a := range []impl.Admin{{}, {Before: 8, Name: "one", User: "ann", Folder: "inbox"}, {Name: "9", User: "9", Folder: long(65537)}} {
			a.Kind = kind
			for _, s := range []impl.Server{impl.NewServer(), grownTown(), shaken(grownTown(), 1), atGen(grownTown(), 200), crowded(grownTown(), 0)} {
				mustStayAs(t, "another Kind", s, toAdmin(a), impl.ErrForm)
			}
			mustStayAs(t, "another Kind, no power", down, toAdmin(a), impl.ErrDown)
			mustNotServe(t, "another Kind, no server", impl.Server{}, toAdmin(a), impl.ErrBad)
		}
	}
}

// A server that is not Up does nothing, whatever is asked.
func TestAdminsWithoutPower(t *testing.T) {
	for what, s := range rightServers() {
		if s.Up {
			continue
		}
		for _, a := range append(goodActs(), snapNow("9"), snapNow("one"), snapGone("none"), snapGone(long(65537)), pruneNow(0), folderBack("none", "9", "9"), folderBack("one", "9", "9"), userBack("none", "ann"), userBack("one", "none"), userMore("9", "9"), userMore("ann", "apple")) {
			mustStayAs(t, what, s, a, impl.ErrDown)
		}
	}
}

// adminRow is a server, an act, and the code with which it is as it was.
type adminRow struct {
	s    impl.Server
	a    serverAsk
	code int
}

func mustRefuseActs(t *testing.T, rows map[string]adminRow) {
	t.Helper()
	for what, row := range rows {
		mustStayAs(t, what, row.s, row.a, row.code)
		if row.s.Up {
			mustStayAs(t, what+", armed", shaken(row.s, 1, 0, 1), row.a, row.code)
		}
	}
}

// fourSnaps is a town with as many snapshots as there may be.
func fourSnaps() impl.Server {
	return serverOf(town(), old{"a", 0, town()}, old{"b", 5, town()}, old{"c", 5, town()}, old{"d", 60000, town()})
}

// The codes of the acts on snapshots, each with those behind it at once.
func TestCodesOfSnapshotActs(t *testing.T) {
	full, last := fourSnaps(), atGen(fourSnaps(), 200)
	rows := map[string]adminRow{
		"AdSnap: there is one":           {full, snapNow("a"), impl.ErrTwice},
		"AdSnap: there is one, MaxGen":   {last, snapNow("d"), impl.ErrTwice},
		"AdSnap: a fifth one":            {full, snapNow("e"), impl.ErrFull},
		"AdSnap: a fifth one, MaxGen":    {last, snapNow("e"), impl.ErrFull},
		"AdSnap: MaxGen":                 {atGen(grownTown(), 200), snapNow("two"), impl.ErrMany},
		"AdSnap: twice at MaxGen":        {atGen(grownTown(), 200), snapNow("one"), impl.ErrTwice},
		"AdDrop: none":                   {full, snapGone("e"), impl.ErrNone},
		"AdDrop: none at all":            {impl.NewServer(), snapGone("a"), impl.ErrNone},
		"AdDrop: none, MaxGen":           {last, snapGone("e"), impl.ErrNone},
		"AdDrop: no short name":          {full, snapGone("9"), impl.ErrNone},
		"AdDrop: no name":                {full, snapGone(""), impl.ErrNone},
		"AdDrop: of MaxText":             {full, snapGone(long(65536)), impl.ErrNone},
		"AdDrop: more than DropSnap has": {full, snapGone(long(65537)), impl.ErrLong},
		"AdDrop: MaxGen":                 {last, snapGone("a"), impl.ErrMany},
		"AdPrune: none":                  {full, pruneNow(0), impl.ErrNone},
		"AdPrune: far below":             {full, pruneNow(math.MinInt), impl.ErrNone},
		"AdPrune: none at all":           {impl.NewServer(), pruneNow(math.MaxInt), impl.ErrNone},
		"AdPrune: none, MaxGen":          {last, pruneNow(0), impl.ErrNone},
		"AdPrune: MaxGen":                {last, pruneNow(1), impl.ErrMany},
		"AdPrune: all, MaxGen":           {last, pruneNow(math.MaxInt), impl.ErrMany},
	}
	for _, name := range wrongNames() {
		rows[fmt.Sprintf("AdSnap: %.20q, %d bytes", name, len(name))] = adminRow{grownTown(), snapNow(name), impl.ErrName}
		rows[fmt.Sprintf("AdSnap: %.20q, %d bytes, MaxGen", name, len(name))] = adminRow{last, snapNow(name), impl.ErrName}
	}
	mustRefuseActs(t, rows)
	for _, before := range []int{1, 5, 6, 60000, 60001, math.MaxInt} {
		mustCode(t, "AdPrune", mustServeDue(t, "pruned", full, pruneNow(before)).code, impl.OK)
	}
	for _, name := range []string{"A", "_", "eight_08", "z9"} {
		mustCode(t, "AdSnap", mustServeDue(t, "taken", grownTown(), snapNow(name)).code, impl.OK)
	}
	mustCode(t, "AdSnap", mustServeDue(t, "no page is needed", crowded(grownTown(), 0), snapNow("two")).code, impl.OK)
}

// quotaTown has six mails of ann now, in two folders, and three in each of its
// snapshot.
func quotaTown() impl.Server {
	now := mailWith(newPairs(), "f/ann/inbox", "1 9", "f/ann/work", "3 9", "v", "4")
	was := mailWith(now, "m/ann/inbox/001", "0a", "m/ann/inbox/002", "0b", "m/ann/inbox/003", "0c")
	for i := range 6 {
		now = mailWith(now, fmt.Sprintf("m/ann/work/00%d", 1+i), "0w")
	}
	return serverOf(now, old{"one", 0, was})
}

// crammed has 60 pairs; its snapshot has a folder more of ann, and one with a
// mail more.
func crammed() impl.Server {
	was := mailWith(newPairs(), "f/ann/inbox", "1 2", "m/ann/inbox/001", "0x", "f/ann/work", "3 1", "v", "4")
	return packed(fullTownOf(60), old{"one", 0, was})
}

// fullTownOf gives a mail store of n pairs, by folders of bob's; ann has an
// inbox without mails.
func fullTownOf(n int) []impl.Pair {
	list := mailWith(newPairs(), "v", "9000")
	for i := 0; len(list) < n; i++ {
		list = mailWith(list, fmt.Sprintf("f/bob/x%02d", i), fmt.Sprint(100+i, 1))
	}
	return list
}

// The codes of the acts that restore, each with those behind it at once.
func TestCodesOfRestoringActs(t *testing.T) {
	s := grownTown()
	spent := serverOf(mailWith(laterTown(), "v", "10000"), old{"one", 0, town()})
	gone := serverOf(town(), old{"one", 0, mailWith(mailLess(newPairs(), "u/ann", "f/ann/inbox"), "v", "5")})
	rows := map[string]adminRow{
		"AdFolder: no snapshot":               {s, folderBack("two", "ann", "inbox"), impl.ErrNone},
		"AdFolder: no snapshot, no names":     {s, folderBack("two", "9", "9"), impl.ErrNone},
		"AdFolder: no snapshot, no user":      {s, folderBack("two", "none", "none"), impl.ErrNone},
		"AdFolder: no name of one":            {s, folderBack("", "ann", "inbox"), impl.ErrNone},
		"AdFolder: no short name of one":      {s, folderBack("9", "9", "9"), impl.ErrNone},
		"AdFolder: a long name of one":        {s, folderBack(long(65537), "ann", "inbox"), impl.ErrNone},
		"AdFolder: no snapshot, MaxGen":       {atGen(s, 200), folderBack("two", "ann", "inbox"), impl.ErrNone},
		"AdFolder: no user":                   {s, folderBack("one", "none", "inbox"), impl.ErrUser},
		"AdFolder: no user, no folder":        {s, folderBack("one", "none", "none"), impl.ErrUser},
		"AdFolder: no user any more":          {serverOf(goneUser(), old{"one", 0, town()}), folderBack("one", "ann", "inbox"), impl.ErrUser},
		"AdFolder: no folder":                 {s, folderBack("one", "ann", "new"), impl.ErrFolder},
		"AdFolder: no folder of the user":     {s, folderBack("one", "cid", "inbox"), impl.ErrFolder},
		"AdFolder: no folder, no validity":    {spent, folderBack("one", "ann", "new"), impl.ErrFolder},
		"AdFolder: no validity":               {spent, folderBack("one", "ann", "inbox"), impl.ErrMany},
		"AdFolder: no validity, MaxGen":       {atGen(spent, 200), folderBack("one", "ann", "inbox"), impl.ErrMany},
		"AdFolder: no validity, no page":      {crowded(spent, 0), folderBack("one", "ann", "inbox"), impl.ErrMany},
		"AdFolder: a folder too many":         {crammed(), folderBack("one", "ann", "work"), impl.ErrFull},
		"AdFolder: a folder too many, MaxGen": {atGen(crammed(), 200), folderBack("one", "ann", "work"), impl.ErrFull},
		"AdFolder: a mail too many":           {crammed(), folderBack("one", "ann", "inbox"), impl.ErrFull},
		"AdFolder: a mail too many, MaxGen":   {atGen(crammed(), 200), folderBack("one", "ann", "inbox"), impl.ErrFull},
		"AdFolder: quota":                     {quotaTown(), folderBack("one", "ann", "inbox"), impl.ErrQuota},
		"AdFolder: quota, MaxGen":             {atGen(quotaTown(), 200), folderBack("one", "ann", "inbox"), impl.ErrQuota},
		"AdFolder: quota, no page":            {crowded(quotaTown(), 0), folderBack("one", "ann", "inbox"), impl.ErrQuota},
		"AdFolder: MaxGen":                    {atGen(s, 200), folderBack("one", "ann", "inbox"), impl.ErrMany},
		"AdFolder: MaxGen, no page":           {atGen(crowded(s, 0), 200), folderBack("one", "ann", "inbox"), impl.ErrMany},
		"AdFolder: no page":                   {crowded(s, 0), folderBack("one", "ann", "inbox"), impl.ErrFull},
		"AdFolder: too deep":                  {deepServer(), folderBack("one", "ann", "inbox"), impl.ErrBad},
		"AdUser: no snapshot":                 {s, userBack("two", "ann"), impl.ErrNone},
		"AdUser: no snapshot, no name":        {s, userBack("two", "9"), impl.ErrNone},
		"AdUser: a long name of one":          {s, userBack(long(65537), "ann"), impl.ErrNone},
		"AdUser: no user":                     {s, userBack("one", "none"), impl.ErrUser},
		"AdUser: no user any more":            {serverOf(goneUser(), old{"one", 0, town()}), userBack("one", "ann"), impl.ErrUser},
		"AdUser: no user then":                {gone, userBack("one", "ann"), impl.ErrNone},
		"AdUser: no user then, MaxGen":        {atGen(gone, 200), userBack("one", "ann"), impl.ErrNone},
		"AdUser: no validity":                 {spent, userBack("one", "ann"), impl.ErrMany},
		"AdUser: no validity, no page":        {crowded(spent, 0), userBack("one", "ann"), impl.ErrMany},
		"AdUser: a pair too many":             {crammed(), userBack("one", "ann"), impl.ErrFull},
		"AdUser: a pair too many, MaxGen":     {atGen(crammed(), 200), userBack("one", "ann"), impl.ErrFull},
		"AdUser: MaxGen":                      {atGen(s, 200), userBack("one", "ann"), impl.ErrMany},
		"AdUser: too deep":                    {deepServer(), userBack("one", "ann"), impl.ErrBad},
		"AdUser: no page":                     {crowded(s, 0), userBack("one", "ann"), impl.ErrFull},
	}
	for _, name := range wrongNames() {
		what := fmt.Sprintf("%.20q, %d bytes", name, len(name))
		rows["AdFolder: a user "+what] = adminRow{s, folderBack("one", name, "inbox"), impl.ErrName}
		rows["AdFolder: a folder "+what] = adminRow{s, folderBack("one", "ann", name), impl.ErrName}
		rows["AdFolder: nobody and a folder "+what] = adminRow{s, folderBack("one", "none", name), impl.ErrName}
		rows["AdFolder: both "+what] = adminRow{atGen(spent, 200), folderBack("one", name, name), impl.ErrName}
		rows["AdUser: a user "+what] = adminRow{s, userBack("one", name), impl.ErrName}
		rows["AdUser: MaxGen, a user "+what] = adminRow{atGen(spent, 200), userBack("one", name), impl.ErrName}
	}
	mustRefuseActs(t, rows)
}

// The codes of a new user, each with those behind it at once.
func TestCodesOfNewUsers(t *testing.T) {
	spent := packed(mailWith(fullTownOf(60), "v", "10000"))
	rows := map[string]adminRow{
		"there is one":                   {grownTown(), userMore("ann", "apple"), impl.ErrTwice},
		"there is one, no room":          {atGen(spent, 200), userMore("ann", "apple"), impl.ErrTwice},
		"no validity, 60 pairs":          {spent, userMore("dan", "date"), impl.ErrMany},
		"no validity, 60 pairs, MaxGen":  {atGen(spent, 200), userMore("dan", "date"), impl.ErrMany},
		"60 pairs":                       {crammed(), userMore("dan", "date"), impl.ErrFull},
		"60 pairs, MaxGen":               {atGen(crammed(), 200), userMore("dan", "date"), impl.ErrFull},
		"59 pairs":                       {packed(fullTownOf(59)), userMore("dan", "date"), impl.ErrFull},
		"MaxGen":                         {atGen(grownTown(), 200), userMore("dan", "date"), impl.ErrMany},
		"MaxGen, no page":                {atGen(crowded(grownTown(), 0), 200), userMore("dan", "date"), impl.ErrMany},
		"no page":                        {crowded(grownTown(), 0), userMore("dan", "date"), impl.ErrFull},
		"too deep":                       {deepServer(), userMore("cid", "cherry"), impl.ErrBad},
		"too deep, one below MaxGen":     {atGen(deepServer(), 199), userMore("cid", "cherry"), impl.ErrBad},
		"too deep at MaxGen is not seen": {atGen(deepServer(), 200), userMore("cid", "cherry"), impl.ErrMany},
	}
	for _, name := range wrongNames() {
		what := fmt.Sprintf("%.20q, %d bytes", name, len(name))
		rows["a user "+what] = adminRow{grownTown(), userMore(name, "date"), impl.ErrName}
		rows["a word "+what] = adminRow{grownTown(), userMore("dan", name), impl.ErrName}
		rows["a word of one that is there "+what] = adminRow{grownTown(), userMore("ann", name), impl.ErrName}
		rows["both, no room "+what] = adminRow{atGen(spent, 200), userMore(name, name), impl.ErrName}
	}
	mustRefuseActs(t, rows)
	for _, name := range []string{"A", "_", "eight_08", "z9"} {
		mustCode(t, "AdNewUser", mustServeDue(t, "added", grownTown(), userMore(name, name)).code, impl.OK)
	}
	mustCode(t, "AdNewUser", mustServeDue(t, "58 pairs", packed(fullTownOf(58)), userMore("dan", "date")).code, impl.OK)
}

// All parts of an act in all ways together, on several servers.
func TestActsTogether(t *testing.T) {
	t.Parallel()
	servers := []impl.Server{grownTown(), fourSnaps(), quotaTown(), crammed(), deepServer(), atGen(grownTown(), 200), crowded(grownTown(), 0), crowded(grownTown(), 9), shaken(grownTown(), 1, 0, 1), serverOf(mailWith(town(), "v", "10000"), old{"one", 0, town()}), downByHand(grownTown().Store.Disk.Sectors, 20), {}}
	codes := map[int]int{}
	for _, s := range servers {
		for kind := 0; kind <= 7; kind++ {
			for _, name := range []string{"one", "a", "new", "9", long(65537)} {
				for _, user := range []string{"ann", "none", "nine_byte"} {
					for _, folder := range []string{"inbox", "work", "none", ""} {
						a := impl.Admin{Kind: kind, Before: len(folder) + len(user), Name: name, User: user, Folder: folder}
						codes[mustServeDue(t, "together", s, toAdmin(a)).code]++
					}
				}
			}
		}
		if t.Failed() {
			return
		}
	}
	for _, code := range []int{impl.OK, impl.ErrBad, impl.ErrLong, impl.ErrForm, impl.ErrNone, impl.ErrMany, impl.ErrFull, impl.ErrTwice, impl.ErrDown, impl.ErrQuota, impl.ErrUser, impl.ErrFolder, impl.ErrName} {
		if codes[code] == 0 {
			t.Errorf("no act is answered with code %d (%s): %v", code, impl.CodeWord(code), codes)
		}
	}
}
