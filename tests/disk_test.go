package tests

import (
	"fmt"
	"math"
	"math/rand"
	"slices"
	"strconv"
	"testing"

	"loop.example/g00340/impl"
)

// sameDisk holds disks against each other; nil and an empty list are the same.
func sameDisk(a, b impl.Disk) bool {
	return slices.Equal(a.Sectors, b.Sectors) && slices.Equal(a.Cache, b.Cache) && a.Armed == b.Armed && slices.Equal(a.Keep, b.Keep)
}

func mustDisk(t *testing.T, what string, got, want impl.Disk) {
	t.Helper()
	if !sameDisk(got, want) {
		t.Errorf("%.80s: disk %.600q, not %.600q", what, fmt.Sprint(got), fmt.Sprint(want))
	}
}

func write(at int, data string) impl.Pending { return impl.Pending{At: at, Data: data} }

// sure gives a disk of these sectors, all of them sure.
func sure(sectors ...string) impl.Disk { return impl.Disk{Sectors: sectors} }

// busy gives a disk of three sectors on which each sort of write waits: a
// sector written twice, one written once, and one not at all; in no order.
func busy() impl.Disk {
	return impl.Disk{Sectors: []string{"a", "b", "c"}, Cache: []impl.Pending{write(2, "c1"), write(0, "a1"), write(2, "c2")}}
}

// armedWith gives busy, Armed.
func armedWith(keep ...int) impl.Disk {
	d := busy()
	d.Armed, d.Keep = true, keep
	return d
}

func TestNewDisk(t *testing.T) {
	for _, n := range []int{1, 2, 52, 79, 80} {
		d, code := impl.NewDisk(n)
		mustCode(t, "NewDisk "+strconv.Itoa(n), code, impl.OK)
		mustDisk(t, "NewDisk", d, impl.Disk{Sectors: make([]string, n)})
		if !impl.DiskOK(d) {
			t.Errorf("NewDisk(%d) is not right", n)
		}
	}
	for _, n := range []int{math.MinInt, -80, -1, 0, 81, 420, 65537, math.MaxInt} {
		d, code := impl.NewDisk(n)
		mustCode(t, "NewDisk "+strconv.Itoa(n), code, impl.ErrRange)
		mustDisk(t, "NewDisk", d, impl.Disk{})
	}
}

func TestWriteIsRead(t *testing.T) {
	d := sure("a", "b", "c")
	for i, w := range []impl.Pending{write(1, "x"), write(0, "y"), write(1, "z"), write(1, ""), write(2, long(420))} {
		was := d
		var code int
		d, code = impl.DiskWrite(d, w.At, w.Data)
		mustCode(t, "DiskWrite", code, impl.OK)
		mustDisk(t, "DiskWrite", d, impl.Disk{Sectors: []string{"a", "b", "c"}, Cache: append(slices.Clone(was.Cache), w)})
		for at := range 3 {
			got, code := impl.DiskRead(d, at)
			want, _ := impl.DiskRead(was, at)
			if at == w.At {
				want = w.Data
			}
			if got != want || code != impl.OK {
				t.Errorf("behind write %d sector %d is read as %.20q, code %d", i, at, got, code)
			}
		}
	}
}

func TestReadWhatIsSure(t *testing.T) {
	for at, want := range []string{"a1", "b", "c2"} {
		if got, code := impl.DiskRead(busy(), at); got != want || code != impl.OK {
			t.Errorf("sector %d is %q, code %d, not %q", at, got, code, want)
		}
		if got, code := impl.DiskRead(armedWith(0, 0), at); got != want || code != impl.OK {
			t.Errorf("sector %d of a disk that is Armed is %q, code %d, not %q", at, got, code, want)
		}
	}
	if got, code := impl.DiskRead(sure("one"), 0); got != "one" || code != impl.OK {
		t.Errorf("the only sector is %q, code %d", got, code)
	}
}

// A write leaves the disk Armed: the crash is waiting still.
func TestWriteLeavesArmed(t *testing.T) {
	d, code := impl.DiskWrite(armedWith(1, -1), 1, "b1")
	want := armedWith(1, -1)
	want.Cache = append(want.Cache, write(1, "b1"))
	mustCode(t, "DiskWrite", code, impl.OK)
	mustDisk(t, "DiskWrite", d, want)
}

func TestSync(t *testing.T) {
	tests := map[string]struct{ d, want impl.Disk }{
		"writes":              {busy(), sure("a1", "b", "c2")},
		"no writes":           {sure("a", "b"), sure("a", "b")},
		"an empty write":      {impl.Disk{Sectors: []string{"a"}, Cache: []impl.Pending{write(0, "")}}, sure("")},
		"an empty last write": {impl.Disk{Sectors: []string{"a"}, Cache: []impl.Pending{write(0, "x"), write(0, "")}}, sure("")},
		"the last one wins":   {impl.Disk{Sectors: []string{""}, Cache: []impl.Pending{write(0, "z"), write(0, "y"), write(0, "x")}}, sure("x")},
	}
	for what, test := range tests {
		got, alive, code := impl.DiskSync(test.d)
		mustCode(t, what, code, impl.OK)
		mustDisk(t, what, got, test.want)
		if !alive {
			t.Errorf("%s: the power is gone", what)
		}
		crash, _ := impl.DiskCrash(got, nil)
		mustDisk(t, what+", then a crash", crash, test.want)
	}
}

// keeps are lists that a crash of busy may keep by, with what is there behind it.
func keeps() map[string]struct {
	keep []int
	want impl.Disk
} {
	return map[string]struct {
		keep []int
		want impl.Disk
	}{
		"nil":                      {nil, sure("a", "b", "c")},
		"empty":                    {[]int{}, sure("a", "b", "c")},
		"none":                     {[]int{0, 0, 0}, sure("a", "b", "c")},
		"the first":                {[]int{1}, sure("a", "b", "c1")},
		"the first, then none":     {[]int{1, 0, 0}, sure("a", "b", "c1")},
		"the second":               {[]int{0, 1}, sure("a1", "b", "c")},
		"the third":                {[]int{0, 0, 1}, sure("a", "b", "c2")},
		"the two of one sector":    {[]int{1, 0, 1}, sure("a", "b", "c2")},
		"the first two":            {[]int{1, 1}, sure("a1", "b", "c1")},
		"all":                      {[]int{1, 1, 1}, sure("a1", "b", "c2")},
		"more numbers than writes": {[]int{0, 1, 0, 1, 1, 1}, sure("a1", "b", "c")},
		"other numbers":            {[]int{2, -1, math.MinInt}, sure("a1", "b", "c2")},
		"numbers like sectors":     {[]int{2, 0, 0, 2}, sure("a", "b", "c1")},
		"the greatest number":      {[]int{0, math.MaxInt}, sure("a1", "b", "c")},
		"even numbers":             {[]int{256, 0, 1 << 32}, sure("a", "b", "c2")},
	}
}

func TestCrashKeepsWhatIsKept(t *testing.T) {
	for what, test := range keeps() {
		for _, d := range []impl.Disk{busy(), armedWith(), armedWith(1, 1, 1), armedWith(0, 0, 0)} {
			got, code := impl.DiskCrash(d, test.keep)
			mustCode(t, what, code, impl.OK)
			mustDisk(t, what, got, test.want)
		}
	}
	got, code := impl.DiskCrash(sure("a", "b"), []int{1, 1})
	mustCode(t, "no writes", code, impl.OK)
	mustDisk(t, "no writes", got, sure("a", "b"))
}

// A disk that is Armed crashes at its next sync just as it would by DiskCrash,
// and only then.
func TestArmedCrashesOnce(t *testing.T) {
	for what, test := range keeps() {
		armed, code := impl.DiskArm(busy(), test.keep)
		mustCode(t, what, code, impl.OK)
		mustDisk(t, what, armed, armedWith(test.keep...))
		got, alive, code := impl.DiskSync(armed)
		mustCode(t, what, code, impl.OK)
		mustDisk(t, what, got, test.want)
		if alive {
			t.Errorf("%s: the power stayed", what)
		}
		got, _ = impl.DiskWrite(got, 1, "b1")
		got, alive, code = impl.DiskSync(got)
		if got.Sectors[1] != "b1" || !alive || code != impl.OK {
			t.Errorf("%s: the next sync: %q, %t, code %d", what, got.Sectors, alive, code)
		}
	}
}

func TestArmWithoutWrites(t *testing.T) {
	armed, code := impl.DiskArm(sure("a"), nil)
	mustCode(t, "DiskArm", code, impl.OK)
	mustDisk(t, "DiskArm", armed, impl.Disk{Sectors: []string{"a"}, Armed: true})
	got, alive, code := impl.DiskSync(armed)
	mustCode(t, "DiskSync", code, impl.OK)
	mustDisk(t, "DiskSync", got, sure("a"))
	if alive {
		t.Error("the power stayed")
	}
}

// What is armed anew has the new Keep alone.
func TestArmAgain(t *testing.T) {
	for _, was := range [][]int{nil, {1}, {1, 1, 1, 1, 1}} {
		for _, keep := range [][]int{nil, {0}, {0, 7}, {-3, 0, 0, 0}} {
			got, code := impl.DiskArm(armedWith(was...), keep)
			mustCode(t, "DiskArm", code, impl.OK)
			mustDisk(t, "DiskArm", got, armedWith(keep...))
		}
	}
}

// The numbers of Keep go by the writes, those too that come behind the arming.
func TestKeepCountsLaterWrites(t *testing.T) {
	d, _ := impl.DiskArm(sure("a", "b"), []int{0, 1, 1})
	for _, w := range []impl.Pending{write(0, "a1"), write(1, "b1"), write(0, "a2"), write(1, "b2")} {
		d, _ = impl.DiskWrite(d, w.At, w.Data)
	}
	got, alive, code := impl.DiskSync(d)
	mustCode(t, "DiskSync", code, impl.OK)
	mustDisk(t, "DiskSync", got, sure("a2", "b1"))
	if alive {
		t.Error("the power stayed")
	}
}

func TestPending(t *testing.T) {
	tests := map[string]struct {
		d    impl.Disk
		want []int
	}{
		"none":           {sure("a", "b"), nil},
		"some":           {busy(), []int{0, 2}},
		"armed":          {armedWith(0, 0, 0), []int{0, 2}},
		"falling":        {impl.Disk{Sectors: make([]string, 12), Cache: []impl.Pending{write(11, ""), write(10, "x"), write(9, "x"), write(2, "x"), write(9, ""), write(0, "")}}, []int{0, 2, 9, 10, 11}},
		"what is so":     {impl.Disk{Sectors: []string{"a"}, Cache: []impl.Pending{write(0, "a")}}, []int{0}},
		"one many times": {impl.Disk{Sectors: make([]string, 3), Cache: slices.Repeat([]impl.Pending{write(1, "x")}, 500)}, []int{1}},
	}
	for what, test := range tests {
		got, code := impl.DiskPending(test.d)
		mustCode(t, what, code, impl.OK)
		if !slices.Equal(got, test.want) {
			t.Errorf("%s: %v, not %v", what, got, test.want)
		}
	}
}

func TestPendingOfAllSectors(t *testing.T) {
	d, _ := impl.NewDisk(80)
	var want []int
	for at := range 80 {
		d, _ = impl.DiskWrite(d, 79-at, "x")
		want = append(want, at)
	}
	if got, code := impl.DiskPending(d); !slices.Equal(got, want) || code != impl.OK {
		t.Errorf("%v, code %d", got, code)
	}
	d, _, _ = impl.DiskSync(d)
	if got, code := impl.DiskPending(d); len(got) != 0 || code != impl.OK {
		t.Errorf("behind a sync: %v, code %d", got, code)
	}
}

// model tells of a disk in another way: what is sure, what is read, and the
// writes between them.
type model struct {
	sure, seen []string
	writes     []impl.Pending
	armed      bool
	keep       []int
}

func (m *model) crash(keep []int) {
	for i, w := range m.writes {
		if i < len(keep) && keep[i] != 0 {
			m.sure[w.At] = w.Data
		}
	}
	m.seen = slices.Clone(m.sure)
	m.writes, m.armed, m.keep = nil, false, nil
}

func (m *model) sync() bool {
	alive := !m.armed
	if alive {
		m.keep = slices.Repeat([]int{1}, len(m.writes))
	}
	m.crash(m.keep)
	return alive
}

func (m *model) holds(t *testing.T, d impl.Disk) {
	t.Helper()
	mustDisk(t, "a run", d, impl.Disk{Sectors: m.sure, Cache: m.writes, Armed: m.armed, Keep: m.keep})
	pending, code := impl.DiskPending(d)
	mustCode(t, "DiskPending", code, impl.OK)
	for at, want := range m.seen {
		if got, code := impl.DiskRead(d, at); got != want || code != impl.OK {
			t.Errorf("sector %d is %q, code %d, not %q", at, got, code, want)
		}
		if there := slices.ContainsFunc(m.writes, func(w impl.Pending) bool { return w.At == at }); there != slices.Contains(pending, at) {
			t.Errorf("sector %d: pending is %v", at, pending)
		}
	}
	if !slices.IsSorted(pending) || !impl.DiskOK(d) {
		t.Errorf("pending %v, right %t", pending, impl.DiskOK(d))
	}
}

func someKeep(r *rand.Rand) []int {
	keep := make([]int, r.Intn(12))
	for i := range keep {
		keep[i] = r.Intn(4) - 1
	}
	return keep
}

// runDisk does n things on a disk and on its model, and asks after each one
// that both are alike.
func runDisk(t *testing.T, r *rand.Rand, n int) {
	size := 1 + r.Intn(6)
	d, _ := impl.NewDisk(size)
	m := model{sure: make([]string, size), seen: make([]string, size)}
	for range n {
		var code int
		alive, want := true, true
		switch r.Intn(8) {
		case 0:
			d, alive, code = impl.DiskSync(d)
			want = m.sync()
		case 1:
			keep := someKeep(r)
			d, code = impl.DiskCrash(d, keep)
			m.crash(keep)
		case 2:
			keep := someKeep(r)
			d, code = impl.DiskArm(d, keep)
			m.armed, m.keep = true, keep
		default:
			w := write(r.Intn(size), someText(r, 6))
			d, code = impl.DiskWrite(d, w.At, w.Data)
			m.writes = append(m.writes, w)
			m.seen[w.At] = w.Data
		}
		if alive != want {
			t.Errorf("DiskSync: %t, not %t", alive, want)
		}
		mustCode(t, "a run", code, impl.OK)
		m.holds(t, d)
	}
}

func TestRunsOfADisk(t *testing.T) {
	r := rand.New(rand.NewSource(7))
	for range 200 {
		runDisk(t, r, 40)
		if t.Failed() {
			return
		}
	}
}
