package tests

import (
	"fmt"
	"math"
	"math/rand"
	"slices"
	"testing"

	"loop.example/g00340/impl"
)

var markWrite = impl.Pending{At: 1, Data: markText}

const markNumber = 77

// guardedDisk lays each list of a disk into memory with room behind its end.
func guardedDisk(d impl.Disk) (impl.Disk, func() bool) {
	sectors, sameSectors := guarded(d.Sectors, markText)
	cache, sameCache := guarded(d.Cache, markWrite)
	keep, sameKeep := guarded(d.Keep, markNumber)
	in := impl.Disk{Sectors: sectors, Cache: cache, Armed: d.Armed, Keep: keep}
	return in, func() bool { return sameSectors() && sameCache() && sameKeep() }
}

func spoilDisk(d impl.Disk) {
	spoil(d.Sectors, markText)
	spoil(d.Cache, markWrite)
	spoil(d.Keep, markNumber)
}

func cloneDisk(d impl.Disk) impl.Disk {
	return impl.Disk{Sectors: slices.Clone(d.Sectors), Cache: slices.Clone(d.Cache), Armed: d.Armed, Keep: slices.Clone(d.Keep)}
}

// diskCalls are the calls that answer a disk.
func diskCalls() map[string]func(d impl.Disk, keep []int) (impl.Disk, bool, int) {
	calls := map[string]func(d impl.Disk, keep []int) (impl.Disk, bool, int){
		"DiskSync": func(d impl.Disk, keep []int) (impl.Disk, bool, int) { return impl.DiskSync(d) },
		"DiskCrash": func(d impl.Disk, keep []int) (impl.Disk, bool, int) {
			out, code := impl.DiskCrash(d, keep)
			return out, false, code
		},
		"DiskArm": func(d impl.Disk, keep []int) (impl.Disk, bool, int) {
			out, code := impl.DiskArm(d, keep)
			return out, false, code
		},
	}
	for _, w := range append(wrongWrites(), write(0, ""), write(2, "x"), write(1, long(420)), write(0, long(65537))) {
		calls[fmt.Sprintf("DiskWrite at %d of %d bytes", w.At, len(w.Data))] = func(d impl.Disk, keep []int) (impl.Disk, bool, int) {
			out, code := impl.DiskWrite(d, w.At, w.Data)
			return out, false, code
		}
	}
	return calls
}

// diskApart hands guarded arguments in and asks that nothing of them is
// changed, that the answer is new memory, and that a second call answers alike.
func diskApart(t *testing.T, what string, d impl.Disk, keep []int, call func(impl.Disk, []int) (impl.Disk, bool, int)) {
	t.Helper()
	in, same := guardedDisk(d)
	numbers, sameNumbers := guarded(keep, markNumber)
	first, alive, code := call(in, numbers)
	if !same() || !sameNumbers() {
		t.Fatalf("%s: an argument is changed", what)
	}
	was := cloneDisk(first)
	second, alive2, code2 := call(in, numbers)
	if alive2 != alive || code2 != code || !sameDisk(first, second) {
		t.Fatalf("%s: the second answer is another one", what)
	}
	spoilDisk(first)
	if !same() || !sameNumbers() {
		t.Fatalf("%s: the answer shares memory with an argument", what)
	}
	if !sameDisk(second, was) {
		t.Fatalf("%s: two answers share memory", what)
	}
	spoilDisk(in)
	spoil(numbers, markNumber)
	if !sameDisk(second, was) {
		t.Fatalf("%s: the answer changes with an argument", what)
	}
}

func allDisks() map[string]impl.Disk {
	all := rightDisks()
	for what, d := range wrongDisks() {
		all[what] = d
	}
	all["busy"] = busy()
	return all
}

func TestDiskCallsKeepApart(t *testing.T) {
	keeps := [][]int{nil, {}, {1}, {0, 1, 1}, {1, 0, -7, 1, 1}, make([]int, 500), make([]int, 501), make([]int, 4096), make([]int, 4097)}
	for what, d := range allDisks() {
		for name, call := range diskCalls() {
			for i, keep := range keeps {
				diskApart(t, fmt.Sprintf("%s, %s, keep %d", name, what, i), d, keep, call)
			}
		}
	}
}

func TestDiskIsAskedAndKept(t *testing.T) {
	for what, d := range allDisks() {
		in, same := guardedDisk(d)
		right := impl.DiskOK(in)
		text, code := impl.DiskRead(in, 0)
		first, code2 := impl.DiskPending(in)
		second, code3 := impl.DiskPending(in)
		text2, code4 := impl.DiskRead(in, 0)
		if !same() || right != impl.DiskOK(d) || text != text2 || code != code4 || code2 != code3 || !slices.Equal(first, second) {
			t.Errorf("%s: an argument or the second answer is another one", what)
		}
		was := slices.Clone(second)
		spoil(first, markNumber)
		if !same() || !slices.Equal(second, was) {
			t.Errorf("%s: DiskPending: shared memory", what)
		}
	}
}

// What lies behind the ends of a disk's lists is no part of it.
func TestNothingHangsOnWhatLiesBehindADisk(t *testing.T) {
	d := impl.Disk{Sectors: []string{"a", long(421)}[:1], Cache: []impl.Pending{write(0, "x"), write(9, "y")}[:1], Keep: []int{1}[:0]}
	if !impl.DiskOK(d) {
		t.Error("not right")
	}
	_, code := impl.DiskRead(d, 1)
	mustCode(t, "a sector behind the end", code, impl.ErrRange)
	got, code := impl.DiskCrash(busy(), []int{0, 1, 1}[:2])
	mustCode(t, "a number behind the end", code, impl.OK)
	mustDisk(t, "a number behind the end", got, sure("a1", "b", "c"))
	d.Cache = []impl.Pending{write(0, "x")}[:0]
	if list, code := impl.DiskPending(d); len(list) != 0 || code != impl.OK {
		t.Errorf("DiskPending: %v, code %d", list, code)
	}
}

// An empty list and nil are the same value in a disk too.
func TestEmptyIsNilOnADisk(t *testing.T) {
	of := sure("a")
	empty := impl.Disk{Sectors: []string{"a"}, Cache: []impl.Pending{}, Keep: []int{}}
	for name, call := range diskCalls() {
		first, alive, code := call(of, nil)
		second, alive2, code2 := call(empty, []int{})
		if alive != alive2 || code != code2 || fmt.Sprintf("%#v", first) != fmt.Sprintf("%#v", second) {
			t.Errorf("%s: %#v, %d of nil, %#v, %d of empty lists", name, first, code, second, code2)
		}
	}
	if impl.DiskOK(of) != impl.DiskOK(empty) {
		t.Error("DiskOK")
	}
}

// askDisk writes down what all calls of chapter 3 answer.
func askDisk(d impl.Disk, at int, data string, keep []int) string {
	made, code := impl.NewDisk(at)
	told := fmt.Sprint(made, code, impl.DiskOK(d))
	put, code := impl.DiskWrite(d, at, data)
	told += fmt.Sprint(put, code)
	text, code := impl.DiskRead(d, at)
	told += fmt.Sprint(text, code)
	list, code := impl.DiskPending(d)
	told += fmt.Sprint(list, code)
	crash, code := impl.DiskCrash(d, keep)
	told += fmt.Sprint(crash, code)
	armed, code := impl.DiskArm(d, keep)
	told += fmt.Sprint(armed, code)
	synced, alive, code := impl.DiskSync(d)
	return told + fmt.Sprint(synced, alive, code)
}

// someDisk gives a disk of any kind, often a right one.
func someDisk(r *rand.Rand) impl.Disk {
	numbers := []int{0, 0, 0, 1, 1, 2, 3, 4, -1, 80, math.MinInt, math.MaxInt}
	d := impl.Disk{Armed: r.Intn(2) == 0}
	for range r.Intn(5) {
		d.Sectors = append(d.Sectors, someText(r, 8))
	}
	for range r.Intn(4) {
		d.Cache = append(d.Cache, write(numbers[r.Intn(len(numbers))], someText(r, 8)))
	}
	if d.Armed || r.Intn(4) == 0 {
		d.Keep = someKeep(r)
	}
	return d
}

// No disk makes a call panic, and no answer hangs on the calls ahead: the
// same ones are asked again in the other direction.
func TestAnyDisksInAnyOrder(t *testing.T) {
	r := rand.New(rand.NewSource(8))
	numbers := []int{math.MinInt, -1, 0, 1, 2, 3, 79, 80, 81, math.MaxInt}
	type asked struct {
		d    impl.Disk
		at   int
		data string
		keep []int
		told string
	}
	var all []asked
	for i := range 2000 {
		a := asked{d: someDisk(r), at: numbers[i%len(numbers)], data: someText(r, 430), keep: someKeep(r)}
		a.told = askDisk(a.d, a.at, a.data, a.keep)
		all = append(all, a)
	}
	for _, a := range slices.Backward(all) {
		if askDisk(a.d, a.at, a.data, a.keep) != a.told {
			t.Fatalf("the answer hangs on what was called ahead: %.900q", fmt.Sprint(a))
		}
	}
}
