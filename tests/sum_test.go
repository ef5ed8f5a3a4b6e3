package tests

import (
	"hash/crc32"
	"math/rand"
	"strings"
	"testing"

	"loop.example/g00340/impl"
)

func TestKnownSums(t *testing.T) {
	known := []struct {
		text string
		sum  int
	}{
		{"", 0},
		{"a", 0xe8b7be43},
		{"abc", 0x352441c2},
		{"123456789", 0xcbf43926},
		{"The quick brown fox jumps over the lazy dog", 0x414fa339},
		{"\x00", 0xd202ef8d},
		{"\xff", 0xff000000},
		{"\xff\xff\xff\xff", 0xffffffff},
		{strings.Repeat("\x00", 32), 0x190a55ad},
		{strings.Repeat("\xff", 32), 0xff6cab0b},
	}
	for _, k := range known {
		if got := impl.Check32([]byte(k.text)); got != k.sum {
			t.Errorf("Check32(%q) is %x, not %x", k.text, got, k.sum)
		}
	}
}

func TestSumAgainstLibrary(t *testing.T) {
	r := rand.New(rand.NewSource(1))
	for c := range 256 {
		sameSum(t, []byte{byte(c)})
	}
	for n := range 300 {
		b := make([]byte, n)
		r.Read(b)
		sameSum(t, b)
	}
	for _, n := range []int{4095, 4096, 4097, 65535, 65536} {
		b := make([]byte, n)
		r.Read(b)
		sameSum(t, b)
	}
}

func sameSum(t *testing.T, b []byte) {
	t.Helper()
	if got, want := impl.Check32(b), int(crc32.ChecksumIEEE(b)); got != want {
		t.Errorf("Check32 of %d bytes is %x, not %x", len(b), got, want)
	}
}

func TestSumOfTooMuch(t *testing.T) {
	b := []byte(long(65536))
	if impl.Check32(b) == 0 {
		t.Error("MaxText bytes have no sum")
	}
	if got := impl.Check32(append(b, 'x')); got != 0 {
		t.Errorf("one byte more than MaxText has the sum %x", got)
	}
	if got := impl.Check32(make([]byte, 1<<20)); got != 0 {
		t.Errorf("2^20 bytes have the sum %x", got)
	}
}

func TestSumChangesWithEachBit(t *testing.T) {
	r := rand.New(rand.NewSource(2))
	for _, n := range []int{1, 2, 3, 4, 5, 8, 64, 420} {
		b := make([]byte, n)
		r.Read(b)
		for bit := range 8 * n {
			bitTells(t, b, bit)
		}
	}
	b := make([]byte, 65536)
	r.Read(b)
	for _, bit := range []int{0, 7, 8, 4 * 65536, 8*65536 - 8, 8*65536 - 1} {
		bitTells(t, b, bit)
	}
}

func bitTells(t *testing.T, b []byte, bit int) {
	t.Helper()
	was := impl.Check32(b)
	b[bit/8] ^= 1 << (bit % 8)
	if impl.Check32(b) == was {
		t.Errorf("of %d bytes bit %d does not change the sum", len(b), bit)
	}
	b[bit/8] ^= 1 << (bit % 8)
	if impl.Check32(b) != was {
		t.Errorf("of %d bytes the sum does not come back", len(b))
	}
}
