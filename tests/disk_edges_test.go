package tests

import (
	"math"
	"slices"
	"strconv"
	"testing"

	"loop.example/g00340/impl"
)

// manyWrites gives a disk of two sectors with n writes.
func manyWrites(n int) impl.Disk {
	d := sure("a", "b")
	for i := range n {
		d.Cache = append(d.Cache, write(i%2, "w"+strconv.Itoa(i)))
	}
	return d
}

// rightDisks stand at the edges of what the chapter allows, inside.
func rightDisks() map[string]impl.Disk {
	return map[string]impl.Disk{
		"a sector":                   sure(""),
		"MaxSectors":                 sure(make([]string, 80)...),
		"SectorSize bytes":           sure(long(420)),
		"SectorSize bytes, last":     sure("", "", long(420)),
		"a write to the first":       {Sectors: make([]string, 3), Cache: []impl.Pending{write(0, "")}},
		"a write to the last":        {Sectors: make([]string, 3), Cache: []impl.Pending{write(2, "")}},
		"a write to the 80th":        {Sectors: make([]string, 80), Cache: []impl.Pending{write(79, "x")}},
		"a write of SectorSize":      {Sectors: []string{""}, Cache: []impl.Pending{write(0, ""), write(0, long(420))}},
		"499 writes":                 manyWrites(499),
		"500 writes":                 manyWrites(500),
		"armed without Keep":         {Sectors: []string{""}, Armed: true},
		"armed with an empty Keep":   {Sectors: []string{""}, Armed: true, Keep: []int{}},
		"not armed, an empty Keep":   {Sectors: []string{""}, Cache: []impl.Pending{}, Keep: []int{}},
		"armed with any numbers":     {Sectors: []string{""}, Armed: true, Keep: []int{math.MinInt, -1, 0, 7, math.MaxInt}},
		"500 numbers of Keep":        {Sectors: []string{""}, Armed: true, Keep: make([]int, 500)},
		"all bytes":                  sure("\x00\xff\n"),
		"writes and Keep":            armedWith(1, 0),
		"more numbers than writes":   armedWith(1, 0, 1, 0, 1),
		"500 writes and numbers":     {Sectors: []string{"", ""}, Cache: manyWrites(500).Cache, Armed: true, Keep: make([]int, 500)},
		"writes of what is so":       {Sectors: []string{"a"}, Cache: []impl.Pending{write(0, "a"), write(0, "a")}},
		"MaxSectors of SectorSize":   sure(slices.Repeat([]string{long(420)}, 80)...),
		"500 writes of SectorSize":   {Sectors: []string{""}, Cache: slices.Repeat([]impl.Pending{write(0, long(420))}, 500)},
		"writes to sectors, falling": {Sectors: make([]string, 3), Cache: []impl.Pending{write(2, ""), write(1, ""), write(0, "")}},
	}
}

// wrongDisks stand outside of each edge.
func wrongDisks() map[string]impl.Disk {
	return map[string]impl.Disk{
		"nothing":                     {},
		"no sectors":                  {Sectors: []string{}},
		"no sectors, armed":           {Armed: true},
		"a write and no sectors":      {Cache: []impl.Pending{{}}},
		"81 sectors":                  sure(make([]string, 81)...),
		"4096 sectors":                sure(make([]string, 4096)...),
		"4097 sectors":                sure(make([]string, 4097)...),
		"421 bytes":                   sure(long(421)),
		"421 bytes, last":             sure("", "", long(421)),
		"65537 bytes":                 sure(long(65537)),
		"a write ahead of the first":  {Sectors: []string{"", ""}, Cache: []impl.Pending{write(-1, "")}},
		"a write behind the last":     {Sectors: []string{"", ""}, Cache: []impl.Pending{write(2, "")}},
		"a write to the 81st":         {Sectors: make([]string, 80), Cache: []impl.Pending{write(80, "")}},
		"a last write behind":         {Sectors: []string{""}, Cache: []impl.Pending{write(0, ""), write(1, "")}},
		"a write to the least number": {Sectors: []string{""}, Cache: []impl.Pending{write(math.MinInt, "")}},
		"a write to the greatest":     {Sectors: []string{""}, Cache: []impl.Pending{write(math.MaxInt, "")}},
		"a write of 421 bytes":        {Sectors: []string{""}, Cache: []impl.Pending{write(0, long(421))}},
		"a last write of 421 bytes":   {Sectors: []string{""}, Cache: []impl.Pending{write(0, ""), write(0, long(421))}},
		"a write of 65537 bytes":      {Sectors: []string{""}, Cache: []impl.Pending{write(0, long(65537))}},
		"501 writes":                  manyWrites(501),
		"4097 writes":                 manyWrites(4097),
		"Keep without Armed":          {Sectors: []string{""}, Keep: []int{1}},
		"a nought without Armed":      {Sectors: []string{""}, Keep: []int{0}},
		"501 numbers without Armed":   {Sectors: []string{""}, Keep: make([]int, 501)},
		"501 numbers of Keep":         {Sectors: []string{""}, Armed: true, Keep: make([]int, 501)},
		"4097 numbers of Keep":        {Sectors: []string{""}, Armed: true, Keep: make([]int, 4097)},
	}
}

func TestDiskOK(t *testing.T) {
	for what, d := range rightDisks() {
		if !impl.DiskOK(d) {
			t.Errorf("%s: not right", what)
		}
	}
	for what, d := range wrongDisks() {
		if impl.DiskOK(d) {
			t.Errorf("%s: right", what)
		}
	}
}

// Each call takes each right disk, and what it answers is right again.
func TestRightDisksAreTaken(t *testing.T) {
	for what, d := range rightDisks() {
		written, code := impl.DiskWrite(d, 0, "new")
		want := impl.OK
		if len(d.Cache) == 500 {
			want = impl.ErrFull
		}
		mustCode(t, "DiskWrite, "+what, code, want)
		_, code = impl.DiskRead(d, len(d.Sectors)-1)
		mustCode(t, "DiskRead, "+what, code, impl.OK)
		_, code = impl.DiskPending(d)
		mustCode(t, "DiskPending, "+what, code, impl.OK)
		crash, code := impl.DiskCrash(d, []int{1})
		mustCode(t, "DiskCrash, "+what, code, impl.OK)
		armed, code := impl.DiskArm(d, []int{1})
		mustCode(t, "DiskArm, "+what, code, impl.OK)
		synced, _, code := impl.DiskSync(d)
		mustCode(t, "DiskSync, "+what, code, impl.OK)
		for i, got := range []impl.Disk{written, crash, armed, synced} {
			if !impl.DiskOK(got) {
				t.Errorf("%s: answer %d is not right", what, i)
			}
		}
	}
}

// wrongWrites are writes that busy has no place for.
func wrongWrites() []impl.Pending {
	return []impl.Pending{
		write(-1, ""), write(3, ""), write(80, ""), write(math.MinInt, ""), write(math.MaxInt, ""),
		write(0, long(421)), write(0, long(65536)), write(3, long(421)),
	}
}

func TestWrongWrites(t *testing.T) {
	for _, w := range wrongWrites() {
		d, code := impl.DiskWrite(busy(), w.At, w.Data)
		mustCode(t, "DiskWrite at "+strconv.Itoa(w.At), code, impl.ErrRange)
		mustDisk(t, "DiskWrite", d, impl.Disk{})
	}
	for _, at := range []int{-1, 3, 79, 80, math.MinInt, math.MaxInt} {
		text, code := impl.DiskRead(busy(), at)
		mustCode(t, "DiskRead at "+strconv.Itoa(at), code, impl.ErrRange)
		if text != "" {
			t.Errorf("DiskRead at %d: %q", at, text)
		}
	}
}

func TestMostWrites(t *testing.T) {
	d, code := impl.DiskWrite(manyWrites(499), 1, "last")
	want := manyWrites(499)
	want.Cache = append(want.Cache, write(1, "last"))
	mustCode(t, "the 500th write", code, impl.OK)
	mustDisk(t, "the 500th write", d, want)
	got, code := impl.DiskWrite(d, 0, "x")
	mustCode(t, "the 501st write", code, impl.ErrFull)
	mustDisk(t, "the 501st write", got, d)
	full := manyWrites(500)
	full.Armed, full.Keep = true, []int{0, 5}
	got, code = impl.DiskWrite(full, 0, "x")
	mustCode(t, "a full disk that is Armed", code, impl.ErrFull)
	mustDisk(t, "a full disk that is Armed", got, full)
	synced, alive, code := impl.DiskSync(d)
	mustCode(t, "a full disk", code, impl.OK)
	mustDisk(t, "a full disk", synced, sure("w498", "last"))
	if !alive {
		t.Error("the power is gone")
	}
}

func TestKeepOfManyNumbers(t *testing.T) {
	keep := make([]int, 4097)
	keep[499] = 1
	d := manyWrites(500)
	for _, n := range []int{499, 500, 501, 4096} {
		got, code := impl.DiskCrash(d, keep[:n])
		want := sure("a", "w499")
		if n == 499 {
			want = sure("a", "b")
		}
		mustCode(t, "DiskCrash with "+strconv.Itoa(n), code, impl.OK)
		mustDisk(t, "DiskCrash with "+strconv.Itoa(n), got, want)
	}
	armed, code := impl.DiskArm(d, keep[:500])
	mustCode(t, "DiskArm with 500", code, impl.OK)
	mustDisk(t, "DiskArm with 500", armed, impl.Disk{Sectors: d.Sectors, Cache: d.Cache, Armed: true, Keep: keep[:500]})
	got, alive, code := impl.DiskSync(armed)
	mustCode(t, "DiskSync with 500", code, impl.OK)
	mustDisk(t, "DiskSync with 500", got, sure("a", "w499"))
	if alive {
		t.Error("the power stayed")
	}
	for _, n := range []int{501, 502, 4096} {
		got, code := impl.DiskArm(d, keep[:n])
		mustCode(t, "DiskArm with "+strconv.Itoa(n), code, impl.ErrMany)
		mustDisk(t, "DiskArm with "+strconv.Itoa(n), got, impl.Disk{})
	}
}

// Each fault comes ahead of those behind it: too long, not right, out of
// range, full or many.
func TestOrderOfDiskCodes(t *testing.T) {
	full := manyWrites(500)
	writes := []struct {
		d    impl.Disk
		at   int
		data string
		want int
	}{
		{impl.Disk{}, -1, long(65537), impl.ErrLong},
		{full, -1, long(65537), impl.ErrLong},
		{busy(), 0, long(65537), impl.ErrLong},
		{impl.Disk{}, -1, long(65536), impl.ErrBad},
		{impl.Disk{}, 0, "", impl.ErrBad},
		{manyWrites(501), 2, long(421), impl.ErrBad},
		{full, 2, "", impl.ErrRange},
		{full, -1, "", impl.ErrRange},
		{full, 0, long(421), impl.ErrRange},
		{full, 1, long(420), impl.ErrFull},
	}
	for i, w := range writes {
		got, code := impl.DiskWrite(w.d, w.at, w.data)
		mustCode(t, "DiskWrite "+strconv.Itoa(i), code, w.want)
		want := impl.Disk{}
		if w.want == impl.ErrFull {
			want = full
		}
		mustDisk(t, "DiskWrite "+strconv.Itoa(i), got, want)
	}
	_, code := impl.DiskRead(impl.Disk{}, 0)
	mustCode(t, "DiskRead of no disk, out of range", code, impl.ErrBad)
	_, code = impl.DiskArm(impl.Disk{}, make([]int, 501))
	mustCode(t, "DiskArm of no disk with 501 numbers", code, impl.ErrBad)
}

// A list of an argument's own is bounded by MaxList ahead of all else.
func TestLongKeeps(t *testing.T) {
	for _, d := range []impl.Disk{busy(), {}, manyWrites(501)} {
		got, code := impl.DiskCrash(d, make([]int, 4097))
		mustCode(t, "DiskCrash", code, impl.ErrLong)
		mustDisk(t, "DiskCrash", got, impl.Disk{})
		got, code = impl.DiskArm(d, make([]int, 4097))
		mustCode(t, "DiskArm", code, impl.ErrLong)
		mustDisk(t, "DiskArm", got, impl.Disk{})
	}
	_, code := impl.DiskCrash(impl.Disk{}, make([]int, 4096))
	mustCode(t, "DiskCrash of no disk with MaxList numbers", code, impl.ErrBad)
	_, code = impl.DiskArm(impl.Disk{}, make([]int, 4096))
	mustCode(t, "DiskArm of no disk with MaxList numbers", code, impl.ErrBad)
}

func TestWrongDisksAreRefused(t *testing.T) {
	for what, d := range wrongDisks() {
		for _, at := range []int{-1, 0, 80} {
			got, code := impl.DiskWrite(d, at, "x")
			mustCode(t, "DiskWrite, "+what, code, impl.ErrBad)
			mustDisk(t, "DiskWrite, "+what, got, impl.Disk{})
			text, code := impl.DiskRead(d, at)
			mustCode(t, "DiskRead, "+what, code, impl.ErrBad)
			if text != "" {
				t.Errorf("DiskRead, %s: %.20q", what, text)
			}
		}
		for _, keep := range [][]int{nil, {1, 1}, make([]int, 500), make([]int, 4096)} {
			got, code := impl.DiskCrash(d, keep)
			mustCode(t, "DiskCrash, "+what, code, impl.ErrBad)
			mustDisk(t, "DiskCrash, "+what, got, impl.Disk{})
			got, code = impl.DiskArm(d, keep)
			mustCode(t, "DiskArm, "+what, code, impl.ErrBad)
			mustDisk(t, "DiskArm, "+what, got, impl.Disk{})
		}
		list, code := impl.DiskPending(d)
		mustCode(t, "DiskPending, "+what, code, impl.ErrBad)
		got, alive, code := impl.DiskSync(d)
		mustCode(t, "DiskSync, "+what, code, impl.ErrBad)
		mustDisk(t, "DiskSync, "+what, got, impl.Disk{})
		if alive || len(list) != 0 {
			t.Errorf("%s: DiskSync %t, DiskPending %v", what, alive, list)
		}
	}
}
