package tests

import (
	"math"
	"math/rand"
	"strings"
	"testing"

	"loop.example/g00340/impl"
)

// rightSupers are right, with their bytes ahead of the sum.
func rightSupers() map[string]struct {
	s    impl.Super
	text string
} {
	type row = struct {
		s    impl.Super
		text string
	}
	return map[string]row{
		"the first":           {super(0, -1), "s\x00\x00\x00"},
		"a Root of 0":         {super(1, 0), "s\x01\x01\x00"},
		"a Root of 49":        {super(0, 49), "s\x00\x32\x00"},
		"MaxGen":              {super(200, -1), "s\xc8\x00\x00"},
		"one below MaxGen":    {super(199, 7), "s\xc7\x08\x00"},
		"a snapshot":          {super(3, -1, snap("a", 4, 258)), "s\x03\x00\x01\x00\x04\x05\x01\x02a"},
		"a snapshot of none":  {super(3, 4, snap("_", -1, 0)), "s\x03\x05\x01\x00\x04\x00\x00\x00_"},
		"a Tick of 60000":     {super(3, 4, snap("B9", 49, 60000)), "s\x03\x05\x01\x00\x05\x32\xea\x60B9"},
		"a name of 8 bytes":   {super(3, 4, snap("abcdefg8", 0, 1)), "s\x03\x05\x01\x00\x0b\x01\x00\x01abcdefg8"},
		"two of one root":     {super(3, 4, snap("a", 4, 9), snap("b", 4, 8)), "s\x03\x05\x02\x00\x04\x05\x00\x09a\x00\x04\x05\x00\x08b"},
		"a beginning ahead":   {super(3, 4, snap("a", 4, 0), snap("a0", 4, 0)), "s\x03\x05\x02\x00\x04\x05\x00\x00a\x00\x05\x05\x00\x00a0"},
		"MaxSnaps":            {super(3, 4, snap("A", 1, 1), snap("Z", 2, 2), snap("_", 3, 3), snap("a", 4, 4)), "s\x03\x05\x04\x00\x04\x02\x00\x01A\x00\x04\x03\x00\x02Z\x00\x04\x04\x00\x03_\x00\x04\x05\x00\x04a"},
		"Ticks of two bytes":  {super(3, 4, snap("a", 4, 255), snap("b", 4, 256)), "s\x03\x05\x02\x00\x04\x05\x00\xffa\x00\x04\x05\x01\x00b"},
		"roots that are free": {super(3, 10, snap("a", 20, 1)), "s\x03\x0b\x01\x00\x04\x15\x00\x01a"},
	}
}

// wrongSupers are no superblocks.
func wrongSupers() map[string]impl.Super {
	right := snap("a", 4, 258)
	all := map[string]impl.Super{
		"Gen -1":               super(-1, -1),
		"Gen 201":              super(201, -1),
		"Gen 256":              super(256, -1),
		"the least Gen":        super(math.MinInt, -1),
		"the greatest Gen":     super(math.MaxInt, -1),
		"Root -2":              super(0, -2),
		"Root 50":              super(0, 50),
		"Root 255":             super(0, 255),
		"the least Root":       super(0, math.MinInt),
		"the greatest Root":    super(0, math.MaxInt),
		"five snapshots":       super(0, -1, snap("a", -1, 0), snap("b", -1, 0), snap("c", -1, 0), snap("d", -1, 0), snap("e", -1, 0)),
		"4097 snapshots":       super(0, -1, make([]impl.Snap, 4097)...),
		"names that fall":      super(0, -1, snap("b", -1, 0), right),
		"names that are alike": super(0, -1, right, right),
		"alike names, others":  super(0, -1, right, snap("a", 5, 259)),
		"a last one that falls": super(0, -1, snap("a", -1, 0), snap("c", -1, 0),
			snap("b", -1, 0)),
	}
	for what, p := range map[string]impl.Snap{
		"no name":                snap("", 4, 258),
		"a name of 9 bytes":      snap("abcdefghi", 4, 258),
		"a name of 40 bytes":     snap(long(40), 4, 258),
		"a name of 65537 bytes":  snap(long(65537), 4, 258),
		"a digit ahead":          snap("1a", 4, 258),
		"a name with a blank":    snap("a b", 4, 258),
		"a name with a dash":     snap("a-", 4, 258),
		"a name of a byte 0":     snap("b\x00", 4, 258),
		"a name of a high byte":  snap("b\xc3\xa4", 4, 258),
		"a snapshot's Root -2":   snap("b", -2, 258),
		"a snapshot's Root 50":   snap("b", 50, 258),
		"a snapshot's Root 255":  snap("b", 255, 258),
		"the least Root of all":  snap("b", math.MinInt, 258),
		"the greatest of all":    snap("b", math.MaxInt, 258),
		"Tick -1":                snap("b", 4, -1),
		"Tick 60001":             snap("b", 4, 60001),
		"Tick 65536":             snap("b", 4, 65536),
		"the least of all Ticks": snap("b", 4, math.MinInt),
		"the greatest of Ticks":  snap("b", 4, math.MaxInt),
	} {
		all[what] = super(3, -1, p)
		all[what+", behind a right one"] = super(3, -1, snap("A", 4, 258), p)
		all[what+", ahead of a right one"] = super(3, -1, p, snap("z", 4, 258))
	}
	return all
}

func TestSuperOK(t *testing.T) {
	for what, row := range rightSupers() {
		if !impl.SuperOK(row.s) {
			t.Errorf("%s: not right", what)
		}
	}
	for what, s := range wrongSupers() {
		if impl.SuperOK(s) {
			t.Errorf("%s: right", what)
		}
	}
	if !impl.SuperOK(impl.Super{Snaps: []impl.Snap{}}) || !impl.SuperOK(impl.Super{}) {
		t.Error("no snapshots: not right")
	}
}

func TestSuperBytes(t *testing.T) {
	for what, row := range rightSupers() {
		got, code := impl.SuperBytes(row.s)
		mustCode(t, what, code, impl.OK)
		if want := sealedText(row.text); string(got) != string(want) {
			t.Errorf("%s: %q, not %q", what, got, want)
		}
		back, code := impl.ReadSuper(got)
		mustCode(t, what+", read back", code, impl.OK)
		mustSuper(t, what+", read back", back, row.s)
	}
	for what, s := range wrongSupers() {
		got, code := impl.SuperBytes(s)
		mustCode(t, what, code, impl.ErrBad)
		if len(got) != 0 {
			t.Errorf("%s: %q beside the code", what, got)
		}
	}
	got, code := impl.SuperBytes(impl.Super{Root: -1, Snaps: []impl.Snap{}})
	if string(got) != string(sealedText("s\x00\x00\x00")) || code != impl.OK {
		t.Errorf("an empty list of snapshots: %q, code %d", got, code)
	}
}

// Superblocks of any kind are read back, and lie in a sector.
func TestSomeSupersAreReadBack(t *testing.T) {
	r := rand.New(rand.NewSource(15))
	for range 2000 {
		s := super(r.Intn(201), r.Intn(51)-1)
		for _, name := range []string{"A", "Bb", "_23", "abcdefgh"} {
			if r.Intn(2) == 0 {
				s.Snaps = append(s.Snaps, snap(name, r.Intn(51)-1, r.Intn(60001)))
			}
		}
		b, code := impl.SuperBytes(s)
		mustCode(t, "SuperBytes", code, impl.OK)
		if string(b) != superText(s) || len(b) > impl.SectorSize {
			t.Fatalf("%v: %q, not %q", s, b, superText(s))
		}
		back, code := impl.ReadSuper(b)
		mustCode(t, "ReadSuper", code, impl.OK)
		mustSuper(t, "ReadSuper", back, s)
	}
}

func mustNotReadSuper(t *testing.T, what string, b []byte, want int) {
	t.Helper()
	s, code := impl.ReadSuper(b)
	mustCode(t, what, code, want)
	mustSuper(t, what, s, impl.Super{})
}

func TestSuperBytesChanged(t *testing.T) {
	for what, row := range rightSupers() {
		breakSeal(sealedText(row.text), func(how string, b []byte, want int) {
			mustNotReadSuper(t, what+", "+how, b, want)
		})
	}
}

// wrongSuperBodies are sealed, but no superblock's.
func wrongSuperBodies() map[string]string {
	all := map[string]string{
		"nothing":                  "",
		"s alone":                  "s",
		"no Root":                  "s\x00",
		"no snapshots' number":     "s\x00\x00",
		"another letter":           "S\x00\x00\x00",
		"no letter":                "\x00\x00\x00",
		"a leaf":                   "l\x02\x00\x01k\x00\x01v",
		"an inner node":            "i\x01\x00\x02\x00a",
		"Gen 201":                  "s\xc9\x00\x00",
		"Gen 255":                  "s\xff\x00\x00",
		"Root 50":                  "s\x00\x33\x00",
		"Root 254":                 "s\x00\xff\x00",
		"a byte behind":            "s\x00\x00\x00x",
		"two":                      "s\x00\x00\x00s\x00\x00\x00",
		"a sealed one":             string(sealedText("s\x00\x00\x00")),
		"a snapshot that is cut":   "s\x00\x00\x01\x00\x05\x05\x01\x02a",
		"a snapshot less":          "s\x00\x00\x02\x00\x04\x05\x01\x02a",
		"a snapshot more":          "s\x00\x00\x00\x00\x04\x05\x01\x02a",
		"five snapshots":           "s\x00\x00\x05" + fieldText("\x00\x00\x00a") + fieldText("\x00\x00\x00b") + fieldText("\x00\x00\x00c") + fieldText("\x00\x00\x00d") + fieldText("\x00\x00\x00e"),
		"snapshots that fall":      "s\x00\x00\x02" + fieldText("\x00\x00\x00b") + fieldText("\x00\x00\x00a"),
		"snapshots that are alike": "s\x00\x00\x02" + fieldText("\x00\x00\x00a") + fieldText("\x00\x00\x00a"),
		"201 fields":               "s\x00\x00\xc9" + strings.Repeat("\x00\x00", 201),
		"MaxText in all":           "s" + long(65531),
	}
	for what, text := range map[string]string{
		"of nothing":         "",
		"of a Root alone":    "\x00",
		"of half a Tick":     "\x00\x00",
		"without a name":     "\x00\x00\x00",
		"of root 50":         "\x33\x00\x00a",
		"of root 254":        "\xff\x00\x00a",
		"of Tick 60001":      "\x00\xea\x61a",
		"of Tick 65535":      "\x00\xff\xffa",
		"of a name of nine":  "\x00\x00\x00abcdefghi",
		"of a name of 301":   "\x00\x00\x00" + long(301),
		"of a digit ahead":   "\x00\x00\x001a",
		"of a name of noise": "\x00\x00\x00a\n",
	} {
		all["a snapshot "+what] = "s\x00\x00\x01" + fieldText(text)
		all["a last snapshot "+what] = "s\x00\x00\x02" + fieldText("\x00\x00\x00A") + fieldText(text)
	}
	return all
}

func TestReadSuperFaults(t *testing.T) {
	for what, text := range wrongSuperBodies() {
		mustNotReadSuper(t, what, sealedText(text), impl.ErrForm)
		spoilt := sealedText(text)
		spoilt[len(spoilt)-1] ^= 1
		mustNotReadSuper(t, what+", the seal broken too", spoilt, impl.ErrSum)
	}
	for n := range 4 {
		mustNotReadSuper(t, "fewer bytes than a sum", make([]byte, n), impl.ErrSum)
	}
	mustNotReadSuper(t, "nil", nil, impl.ErrSum)
	mustNotReadSuper(t, "MaxText bytes", []byte(long(65536)), impl.ErrSum)
	mustNotReadSuper(t, "more than MaxText bytes", []byte(long(65537)), impl.ErrLong)
	mustNotReadSuper(t, "more than MaxText bytes, sealed", sealedText("s"+long(65532)), impl.ErrLong)
}
