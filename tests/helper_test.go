package tests

import (
	"math/rand"
	"runtime/debug"
	"slices"
	"strings"
	"testing"

	"loop.example/g00340/impl"
)

// The tests make much that is dropped at once: with rarer collections they take
// half the time.
func TestMain(m *testing.M) {
	debug.SetGCPercent(400)
	m.Run()
}

// guarded lays a list into memory with room behind its end, filled with mark;
// the check tells whether list or room was written into.
func guarded[T comparable](list []T, mark T) ([]T, func() bool) {
	const room = 8
	all := append([]T(nil), list...)
	for range room {
		all = append(all, mark)
	}
	was := slices.Clone(all)
	return all[:len(list)], func() bool { return slices.Equal(all, was) }
}

// spoil writes mark over all that an answer may reach, so that shared memory shows.
func spoil[T any](list []T, mark T) {
	list = list[:cap(list)]
	for i := range list {
		list[i] = mark
	}
}

var markPair = impl.Pair{Key: "behind", Value: "the end"}

const markText = "behind the end"

const markByte = 0xa5

func mustCode(t *testing.T, what string, got, want int) {
	t.Helper()
	if got != want {
		t.Errorf("%.80q: code %d (%s), not %d (%s)", what, got, impl.CodeWord(got), want, impl.CodeWord(want))
	}
}

func mustPairs(t *testing.T, what string, got, want []impl.Pair) {
	t.Helper()
	if !slices.Equal(got, want) {
		t.Errorf("%.80q: pairs %q, not %q", what, got, want)
	}
}

func long(n int) string { return strings.Repeat("x", n) }

// manyPairs gives n pairs that rise by Key, right ones if there are at most MaxPairs.
func manyPairs(n int) []impl.Pair {
	list := make([]impl.Pair, n)
	for i := range list {
		key := []byte{'k', byte('0' + i/1000%10), byte('0' + i/100%10), byte('0' + i/10%10), byte('0' + i%10)}
		list[i] = impl.Pair{Key: string(key), Value: "value of " + string(key)}
	}
	return list
}

// someText gives at most most bytes, any of them, from a source with a fixed seed.
func someText(r *rand.Rand, most int) string {
	b := make([]byte, r.Intn(most+1))
	for i := range b {
		b[i] = byte(r.Intn(256))
	}
	return string(b)
}
