package tests

import (
	"fmt"
	"slices"
	"strings"
	"testing"

	"loop.example/g00340/impl"
)

// restoreAsk is a call that restores a folder, or without one a user.
type restoreAsk struct {
	user, folder string
	all          bool
}

func ofFolder(user, folder string) restoreAsk { return restoreAsk{user: user, folder: folder} }

func ofUser(user string) restoreAsk { return restoreAsk{user: user, all: true} }

func (a restoreAsk) String() string {
	if a.all {
		return fmt.Sprintf("RestoreUser of %.12q", a.user)
	}
	return fmt.Sprintf("RestoreFolder of %.12q, %.12q", a.user, a.folder)
}

func (a restoreAsk) do(now, snap []impl.Pair) ([]impl.Pair, int) {
	if a.all {
		return impl.RestoreUser(now, snap, a.user)
	}
	return impl.RestoreFolder(now, snap, a.user, a.folder)
}

func (a restoreAsk) needs() []string {
	if a.all {
		return []string{a.user}
	}
	return []string{a.user, a.folder}
}

// fault finds those with which nothing is answered.
func (a restoreAsk) fault(now, snap []impl.Pair) int {
	names := a.needs()
	switch {
	case len(now) > 4096 || len(snap) > 4096 || slices.ContainsFunc(names, func(name string) bool { return len(name) > 65536 }):
		return impl.ErrLong
	case !mailByHand(now):
		return impl.ErrBad
	case slices.ContainsFunc(names, func(name string) bool { return !shortWord.MatchString(name) }):
		return impl.ErrName
	case !mailByHand(snap):
		return impl.ErrBad
	}
	return impl.OK
}

// byHand gives what the call is to answer, by changing a box key by key.
func (a restoreAsk) byHand(now, snap []impl.Pair) ([]impl.Pair, int) {
	if code := a.fault(now, snap); code != impl.OK {
		return nil, code
	}
	b := boxOf(now)
	if code := a.change(b, boxOf(snap)); code != impl.OK {
		return slices.Clone(now), code
	}
	return b.pairs(), impl.OK
}

func (a restoreAsk) change(b, old box) int {
	switch {
	case !b.has("u/" + a.user):
		return impl.ErrUser
	case a.all && !old.has("u/"+a.user):
		return impl.ErrNone
	case a.all:
		return b.bringAll(old, a.user)
	case !old.has("f/" + a.user + "/" + a.folder):
		return impl.ErrFolder
	}
	return b.bring(old, a.user, "f/"+a.user+"/"+a.folder)
}

// bring puts the folder of that key as the old box has it.
func (b box) bring(old box, user, key string) int {
	mails := "m" + key[1:] + "/"
	for _, gone := range b.under(mails) {
		delete(b, gone)
	}
	_, next, _ := strings.Cut(old[key], " ")
	if code := b.fresh(key, next); code != impl.OK {
		return code
	}
	if len(b) > 60 {
		return impl.ErrFull
	}
	for _, mail := range old.under(mails) {
		b[mail] = old[mail]
	}
	if len(b.under("m/"+user+"/")) > 6 {
		return impl.ErrQuota
	}
	if len(b) > 60 {
		return impl.ErrFull
	}
	return impl.OK
}

func (b box) bringAll(old box, user string) int {
	for _, key := range b.under("m/" + user + "/") {
		delete(b, key)
	}
	for _, key := range b.under("f/" + user + "/") {
		if !old.has(key) {
			delete(b, key)
		}
	}
	for _, key := range old.under("f/" + user + "/") {
		if code := b.bring(old, user, key); code != impl.OK {
			return code
		}
	}
	return impl.OK
}

// mustRestore asks a call and holds it against what is wanted; what is
// answered without a code must hold what is promised.
func mustRestore(t *testing.T, now, snap []impl.Pair, a restoreAsk, want []impl.Pair, wantCode int) {
	t.Helper()
	got, code := a.do(now, snap)
	if code != wantCode || !slices.Equal(got, want) {
		t.Errorf("%s: code %d, not %d: %.900q, not %.900q", a, code, wantCode, fmt.Sprint(got), fmt.Sprint(want))
	}
	if code == impl.OK {
		mustBeRestored(t, now, snap, got, a)
	}
	byHand, codeByHand := a.byHand(now, snap)
	if codeByHand != wantCode || !slices.Equal(byHand, want) {
		t.Errorf("%s by hand: code %d, not %d: %.900q", a, codeByHand, wantCode, fmt.Sprint(byHand))
	}
}

// mustBeRestored asks, of what a call answered without a code, that it is a
// mail store, that each folder which is restored is as in the snapshot, under
// a validity of its own above all that there were, and that all else is as it
// was.
func mustBeRestored(t *testing.T, now, snap, got []impl.Pair, a restoreAsk) {
	t.Helper()
	if !impl.MailStoreOK(got) || !mailByHand(got) {
		t.Errorf("%s: no mail store is answered: %q", a, got)
	}
	names := []string{a.folder}
	if a.all {
		names, _ = impl.ListFolders(snap, a.user)
		if is, code := impl.ListFolders(got, a.user); code != impl.OK || !slices.Equal(is, names) {
			t.Errorf("%s: the folders %q, not %q", a, is, names)
		}
	}
	next := whole(boxOf(now)["v"])
	for i, name := range names {
		want, _ := impl.FolderAt(snap, a.user, name)
		is, code := impl.FolderAt(got, a.user, name)
		want.Validity = next + i
		if code != impl.OK || !sameFolder(is, want) {
			t.Errorf("%s: %+v, not %+v", a, is, want)
		}
	}
	others := a.others(now)
	others["v"] = fmt.Sprint(next + len(names))
	kept := a.others(got)
	if !slices.Equal(kept.pairs(), others.pairs()) {
		t.Errorf("%s: %q is left, not %q", a, kept.pairs(), others.pairs())
	}
}

// others gives the pairs that are none of the folders which are restored.
func (a restoreAsk) others(list []impl.Pair) box {
	b := boxOf(list)
	for _, of := range []string{"f/" + a.user + "/", "m/" + a.user + "/"} {
		for _, key := range b.under(of) {
			if a.all || strings.Split(key, "/")[2] == a.folder {
				delete(b, key)
			}
		}
	}
	return b
}

// mustNotRestore asks for a code with which the pairs are as they were.
func mustNotRestore(t *testing.T, now, snap []impl.Pair, a restoreAsk, code int) {
	t.Helper()
	mustRestore(t, now, snap, a, now, code)
}

// mustRestoreNothing asks for a code with which nothing is answered.
func mustRestoreNothing(t *testing.T, now, snap []impl.Pair, a restoreAsk, code int) {
	t.Helper()
	mustRestore(t, now, snap, a, nil, code)
}
