package tests

import (
	"fmt"
	"math/rand"
	"slices"
	"testing"

	"loop.example/g00340/impl"
)

// restoreApart hands guarded lists in and asks that neither they nor what lies
// behind them is changed, that the answer is new memory, and that a second
// call answers alike.
func restoreApart(t *testing.T, now, snap []impl.Pair, a restoreAsk) {
	t.Helper()
	in, same := guarded(now, markPair)
	of, sameSnap := guarded(snap, markPair)
	first, code := a.do(in, of)
	if !same() || !sameSnap() {
		t.Fatalf("%s: an argument is changed", a)
	}
	was := slices.Clone(first)
	second, again := a.do(in, of)
	if code != again || !slices.Equal(first, second) {
		t.Fatalf("%s: the second answer is another one", a)
	}
	spoil(first, markPair)
	if !same() || !sameSnap() {
		t.Fatalf("%s: the answer shares memory with an argument", a)
	}
	if !slices.Equal(second, was) {
		t.Fatalf("%s: two answers share memory", a)
	}
	spoil(in, markPair)
	spoil(of, markPair)
	if !slices.Equal(second, was) {
		t.Fatalf("%s: the answer changes with an argument", a)
	}
}

func restoreAsks() []restoreAsk {
	asks := []restoreAsk{{}, {all: true}}
	for _, user := range []string{"ann", "bob", "cid", "none", "9", long(65537)} {
		asks = append(asks, ofUser(user))
		for _, folder := range []string{"inbox", "work", "a", "none", "9", long(65537)} {
			asks = append(asks, ofFolder(user, folder))
		}
	}
	return asks
}

func TestRestoringKeepsApart(t *testing.T) {
	t.Parallel()
	lists := append(restoreStores(), []impl.Pair{}, manyPairs(60), manyPairs(61), noPairs()["a mail store backwards"])
	for _, now := range lists {
		for _, snap := range lists {
			for _, a := range restoreAsks() {
				restoreApart(t, now, snap, a)
			}
		}
	}
}

// One list may be now and snap at once.
func TestRestoringFromOneList(t *testing.T) {
	for _, list := range restoreStores() {
		for _, a := range restoreAsks() {
			in, same := guarded(list, markPair)
			got, code := a.do(in, in)
			want, wantCode := a.byHand(list, list)
			if !same() || code != wantCode || !slices.Equal(got, want) {
				t.Fatalf("%s: code %d, not %d, or an argument is changed", a, code, wantCode)
			}
			spoil(got, markPair)
			if !same() {
				t.Fatalf("%s: the answer shares memory with an argument", a)
			}
		}
	}
}

// The answers are alike whatever order a map is gone through in.
func TestRestoringAnswersAreAlike(t *testing.T) {
	now, snap := mailWith(fullTown(55), "v", "9000"), fullTown(58)
	for _, a := range []restoreAsk{ofUser("bob"), ofUser("ann"), ofFolder("bob", "x01"), ofFolder("ann", "inbox")} {
		want, code := a.byHand(now, snap)
		for range 50 {
			mustRestore(t, now, snap, a, want, code)
		}
	}
}

// What lies behind the end of a list is no part of it.
func TestNothingHangsOnWhatLiesBehindRestoring(t *testing.T) {
	now, snap := append(laterTown(), impl.Pair{Key: "x"}), append(town(), impl.Pair{Key: "x"})
	for _, a := range []restoreAsk{ofFolder("ann", "inbox"), ofUser("ann")} {
		want, code := a.byHand(laterTown(), town())
		mustCode(t, a.String(), code, impl.OK)
		mustRestore(t, now[:len(now)-1], snap[:len(snap)-1], a, want, impl.OK)
		mustRestoreNothing(t, now, snap[:len(snap)-1], a, impl.ErrBad)
		mustRestoreNothing(t, now[:len(now)-1], snap, a, impl.ErrBad)
		mustRestoreNothing(t, now[:len(now)-2], snap[:len(snap)-1], a, impl.ErrBad)
		mustRestoreNothing(t, now[:len(now)-1], snap[:len(snap)-2], a, impl.ErrBad)
	}
}

func TestEmptyIsNilInRestoring(t *testing.T) {
	for _, a := range []restoreAsk{ofFolder("ann", "inbox"), ofUser("ann")} {
		for _, empty := range [][]impl.Pair{nil, {}} {
			mustRestoreNothing(t, empty, town(), a, impl.ErrBad)
			mustRestoreNothing(t, town(), empty, a, impl.ErrBad)
			mustRestoreNothing(t, empty, empty, a, impl.ErrBad)
		}
	}
}

// No argument makes a call panic, and no answer hangs on the calls ahead: the
// same ones are asked again in the other direction.
func TestAnyRestoringInAnyOrder(t *testing.T) {
	r := rand.New(rand.NewSource(86))
	type row struct {
		now, snap, got []impl.Pair
		ask            restoreAsk
		code           int
	}
	var rows []row
	known := restoreStores()
	names := []string{"ann", "bob", "cid", "inbox", "work", "in", "a", "", "9", "a/b", "/", long(65537)}
	name := func() string {
		if r.Intn(6) == 0 {
			return someText(r, 9)
		}
		return names[r.Intn(len(names)-r.Intn(2)*5)]
	}
	for range 8000 {
		a := row{now: anyMailPairs(r, known), snap: anyMailPairs(r, known), ask: restoreAsk{user: name(), folder: name(), all: r.Intn(2) == 0}}
		a.got, a.code = a.ask.do(a.now, a.snap)
		rows = append(rows, a)
	}
	for _, a := range slices.Backward(rows) {
		if got, code := a.ask.do(a.now, a.snap); code != a.code || !slices.Equal(got, a.got) {
			t.Fatalf("the answer hangs on what was called ahead: %.900q", fmt.Sprint(a.ask, a.now, a.snap))
		}
		if want, code := a.ask.byHand(a.now, a.snap); code != a.code || !slices.Equal(want, a.got) {
			t.Fatalf("another answer than is due: %.900q", fmt.Sprint(a.ask, a.code, code, a.now, a.snap))
		}
	}
}
