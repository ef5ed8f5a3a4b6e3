package tests

import (
	"fmt"
	"math"
	"math/rand"
	"slices"
	"testing"

	"loop.example/g00340/impl"
)

var markMail = impl.Mail{Uid: 77, Flags: 77, Text: markText}

func cloneTold(a mailTold) mailTold {
	a.pairs, a.names, a.uids = slices.Clone(a.pairs), slices.Clone(a.names), slices.Clone(a.uids)
	a.folder.Mails = slices.Clone(a.folder.Mails)
	return a
}

func spoilTold(a mailTold) {
	spoil(a.pairs, markPair)
	spoil(a.names, markText)
	spoil(a.uids, markNumber)
	spoil(a.folder.Mails, markMail)
}

// mailApart hands a guarded list in and asks that neither it nor what lies
// behind it is changed, that the answer is new memory, and that a second call
// answers alike.
func mailApart(t *testing.T, list []impl.Pair, a mailAsk) {
	t.Helper()
	in, same := guarded(list, markPair)
	right := impl.MailStoreOK(in)
	first := a.do(in)
	if !same() {
		t.Fatalf("%s: an argument is changed", a)
	}
	was := cloneTold(first)
	second := a.do(in)
	if !sameTold(first, second) || impl.MailStoreOK(in) != right {
		t.Fatalf("%s: the second answer is another one", a)
	}
	spoilTold(first)
	if !same() {
		t.Fatalf("%s: the answer shares memory with an argument", a)
	}
	if !sameTold(second, was) {
		t.Fatalf("%s: two answers share memory", a)
	}
	spoil(in, markPair)
	if !sameTold(second, was) {
		t.Fatalf("%s: the answer changes with an argument", a)
	}
}

func TestMailCallsKeepApart(t *testing.T) {
	t.Parallel()
	lists := append(someStores(), []impl.Pair{}, manyPairs(60), manyPairs(61), manyPairs(4097))
	for _, list := range rightMail() {
		lists = append(lists, list)
	}
	for _, call := range mailCalls() {
		a := rightAsk(call)
		asks := []mailAsk{a, {call: call}}
		for _, name := range []string{"ann", "bob", "inbox", "none", "9", long(65537)} {
			for place := range 3 {
				other, _ := withName(a, place, name)
				asks = append(asks, other)
			}
		}
		for _, n := range []int{-1, 0, 3, 4, 86, 999} {
			other := a
			other.uid, other.flags, other.text = n, n, long(max(n, 0))
			asks = append(asks, other)
		}
		for _, list := range lists {
			for _, ask := range asks {
				mailApart(t, list, ask)
			}
		}
	}
}

// The answers have the same lists whatever order a map is gone through in.
func TestMailAnswersAreAlike(t *testing.T) {
	list := fullTown(58)
	for _, call := range mailCalls() {
		a := rightAsk(call)
		if !a.takes("folder") || call == "FolderAt" {
			a.user = "bob"
		}
		want := a.byHand(list)
		for range 50 {
			mustTell(t, list, a, want)
		}
	}
}

// What lies behind the end of a list is no part of it.
func TestNothingHangsOnWhatLiesBehindMail(t *testing.T) {
	all := append(town(), impl.Pair{Key: "x"})
	list := all[:len(all)-1]
	if !impl.MailStoreOK(list) || impl.MailStoreOK(all) || impl.MailStoreOK(list[:len(list)-1]) || impl.MailStoreOK(list[:0]) {
		t.Error("MailStoreOK hangs on what lies behind the end")
	}
	for _, call := range mailCalls() {
		a := rightAsk(call)
		mustTell(t, list, a, a.byHand(town()))
		mustRefuseAll(t, list[:len(list)-1], a, impl.ErrBad)
	}
}

func TestEmptyIsNilInMail(t *testing.T) {
	if impl.MailStoreOK(nil) || impl.MailStoreOK([]impl.Pair{}) {
		t.Error("nothing is a mail store")
	}
	for _, call := range mailCalls() {
		mustRefuseAll(t, nil, rightAsk(call), impl.ErrBad)
		mustRefuseAll(t, []impl.Pair{}, rightAsk(call), impl.ErrBad)
	}
}

// anyMailPairs gives pairs that are often no mail store.
func anyMailPairs(r *rand.Rand, known [][]impl.Pair) []impl.Pair {
	list := slices.Clone(known[r.Intn(len(known))])
	switch r.Intn(4) {
	case 0:
		if len(list) > 0 {
			return spoiltMail(r, list)
		}
	case 1:
		for range r.Intn(4) {
			list = append(list, impl.Pair{Key: someText(r, 31), Value: someText(r, 91)})
		}
	case 2:
		r.Shuffle(len(list), func(i, k int) { list[i], list[k] = list[k], list[i] })
	}
	return list
}

// No argument makes a call panic, and no answer hangs on the calls ahead: the
// same ones are asked again in the other direction.
func TestAnyMailInAnyOrder(t *testing.T) {
	r := rand.New(rand.NewSource(73))
	type row struct {
		list []impl.Pair
		ask  mailAsk
		ok   bool
		told mailTold
	}
	var rows []row
	known := append(someStores(), manyPairs(4097))
	numbers := []int{math.MinInt, -1, 0, 1, 3, 4, 999, math.MaxInt}
	names := []string{"ann", "bob", "inbox", "work", "in", "", "9", "a/b", "/", long(65537)}
	name := func() string {
		if r.Intn(4) == 0 {
			return someText(r, 9)
		}
		return names[r.Intn(len(names))]
	}
	for i := range 6000 {
		a := row{list: anyMailPairs(r, known), ask: someAsk(r)}
		if i%2 == 0 {
			a.ask.user, a.ask.folder, a.ask.other = name(), name(), name()
			a.ask.uid, a.ask.flags, a.ask.text = numbers[r.Intn(8)], numbers[r.Intn(8)], someText(r, 100)
		}
		a.ok, a.told = impl.MailStoreOK(a.list), a.ask.do(a.list)
		rows = append(rows, a)
	}
	for _, a := range slices.Backward(rows) {
		if a.ok != impl.MailStoreOK(a.list) || !sameTold(a.ask.do(a.list), a.told) {
			t.Fatalf("the answer hangs on what was called ahead: %.900q", fmt.Sprint(a.ask, a.list))
		}
		if a.ok != mailByHand(a.list) || !sameTold(a.told, a.ask.byHand(a.list)) {
			t.Fatalf("another answer than is due: %.900q", fmt.Sprint(a.ask, a.list, a.told))
		}
	}
}
