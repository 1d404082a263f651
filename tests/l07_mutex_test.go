package tests

import (
	"math"
	"slices"
	"testing"

	"loop.example/g00679/impl"
)

// wantMutexOk says the document's conditions one by one.
func wantMutexOk(m impl.Mutex) bool {
	if m.Owner < -1 {
		return false
	}
	if m.Owner == -1 && len(m.Wait) != 0 {
		return false
	}
	for i, g := range m.Wait {
		if g < 0 || g == m.Owner || slices.Index(m.Wait, g) != i {
			return false
		}
	}
	return true
}

// mutexTold is all that Lock or Unlock answers; what one of them doesn't answer is left zero.
type mutexTold struct {
	m        impl.Mutex
	has      bool
	next     int
	accepted bool
}

func sameMutex(a, b impl.Mutex) bool {
	return a.Owner == b.Owner && slices.Equal(a.Wait, b.Wait)
}

func sameMutexTold(a, b mutexTold) bool {
	return sameMutex(a.m, b.m) && a.has == b.has && a.next == b.next && a.accepted == b.accepted
}

func copyMutex(m impl.Mutex) impl.Mutex {
	return impl.Mutex{Owner: m.Owner, Wait: slices.Clone(m.Wait)}
}

func wantLock(m impl.Mutex, g int) mutexTold {
	if !wantMutexOk(m) || g < 0 || slices.Contains(m.Wait, g) {
		return mutexTold{}
	}
	switch m.Owner {
	case g:
		return mutexTold{m: m}
	case -1:
		return mutexTold{m: impl.Mutex{Owner: g}, has: true, accepted: true}
	}
	return mutexTold{m: impl.Mutex{Owner: m.Owner, Wait: slices.Concat(m.Wait, []int{g})}, accepted: true}
}

func wantUnlock(m impl.Mutex, g int) mutexTold {
	if !wantMutexOk(m) || g < 0 || g != m.Owner {
		return mutexTold{}
	}
	if len(m.Wait) == 0 {
		return mutexTold{m: impl.Mutex{Owner: -1}, next: -1, accepted: true}
	}
	return mutexTold{m: impl.Mutex{Owner: m.Wait[0], Wait: m.Wait[1:]}, next: m.Wait[0], accepted: true}
}

func gotLock(m impl.Mutex, g int) mutexTold {
	d, has, accepted := impl.Lock(m, g)
	return mutexTold{m: d, has: has, accepted: accepted}
}

func gotUnlock(m impl.Mutex, g int) mutexTold {
	d, next, accepted := impl.Unlock(m, g)
	return mutexTold{m: d, next: next, accepted: accepted}
}

func wantMutexTold(t *testing.T, what string, got, want mutexTold) {
	t.Helper()
	if !sameMutexTold(got, want) {
		t.Errorf("%s: %+v, not %+v", what, got, want)
	}
}

// mutexInts are goroutines, some of them far beyond those that an engine has, and ints that are none.
func mutexInts() []int {
	return []int{0, 1, 2, 3, 4, 7, 9, 10, 1000, 1 << 32, 1<<32 + 2, math.MaxInt - 1, math.MaxInt, -1, -2, -3, -1 << 32, math.MinInt, math.MinInt + 1}
}

func mutexWaits() [][]int {
	return [][]int{
		nil, {}, {0}, {1}, {2}, {7}, {math.MaxInt}, {1 << 32},
		{1, 2}, {2, 1}, {0, 3}, {4, 2, 0}, {7, 1, 3, 2}, {0, 1, 2, 3, 4, 5, 6, 7, 8}, {math.MaxInt, 0, 1 << 32},
		{-1}, {-2}, {math.MinInt}, {-1, 1}, {1, -1}, {4, -2, 0}, {0, 1, 2, math.MinInt},
		{1, 1}, {0, 0}, {1, 2, 1}, {2, 1, 1}, {3, 0, 4, 0}, {0, 1, 2, 3, 2, 5, 0}, {math.MaxInt, math.MaxInt}, {-1, -1},
	}
}

// allMutexes has each Owner with each Wait: right ones, and such as are wrong in one way or in many.
func allMutexes() []impl.Mutex {
	var l []impl.Mutex
	for _, owner := range mutexInts() {
		for _, wait := range mutexWaits() {
			l = append(l, impl.Mutex{Owner: owner, Wait: wait})
		}
	}
	return l
}

// A conversion is built only where fields, their order and their types are the document's.
func TestMutexType(t *testing.T) {
	m := impl.Mutex(struct {
		Owner int
		Wait  []int
	}{3, []int{1}})
	if !sameMutex(m, impl.Mutex{Owner: 3, Wait: []int{1}}) {
		t.Errorf("a mutex is %v", m)
	}
}

func TestMutexesOfAllParts(t *testing.T) {
	met := map[string]int{}
	for _, m := range allMutexes() {
		if got := impl.MutexOk(m); got != wantMutexOk(m) {
			t.Fatalf("MutexOk(%+v) = %v", m, got)
		}
		for _, g := range mutexInts() {
			lock, unlock := wantLock(m, g), wantUnlock(m, g)
			if got := gotLock(m, g); !sameMutexTold(got, lock) {
				t.Fatalf("Lock(%+v, %d) = %+v, not %+v", m, g, got, lock)
			}
			if got := gotUnlock(m, g); !sameMutexTold(got, unlock) {
				t.Fatalf("Unlock(%+v, %d) = %+v, not %+v", m, g, got, unlock)
			}
			met[answerWord("lock", lock)]++
			met[answerWord("unlock", unlock)]++
		}
	}
	for _, word := range []string{"lock has", "lock accepted", "lock refused", "unlock accepted", "unlock refused"} {
		if met[word] == 0 {
			t.Errorf("never met: %s", word)
		}
	}
}

func answerWord(call string, x mutexTold) string {
	switch {
	case x.has:
		return call + " has"
	case x.accepted:
		return call + " accepted"
	}
	return call + " refused"
}

func TestMutexOkOneByOne(t *testing.T) {
	for _, x := range []struct {
		what  string
		m     impl.Mutex
		right bool
	}{
		{"nothing of it: the goroutine 0 has it", impl.Mutex{}, true},
		{"nobody has it", impl.Mutex{Owner: -1}, true},
		{"nobody has it, and the list is empty", impl.Mutex{Owner: -1, Wait: []int{}}, true},
		{"an Owner of -2", impl.Mutex{Owner: -2}, false},
		{"the least Owner", impl.Mutex{Owner: math.MinInt}, false},
		{"the greatest Owner", impl.Mutex{Owner: math.MaxInt}, true},
		{"an Owner beyond the goroutines of an engine", impl.Mutex{Owner: 10}, true},
		{"one waits where nobody has it", impl.Mutex{Owner: -1, Wait: []int{0}}, false},
		{"two wait where nobody has it", impl.Mutex{Owner: -1, Wait: []int{0, 1}}, false},
		{"one of -1 waits where nobody has it", impl.Mutex{Owner: -1, Wait: []int{-1}}, false},
		{"one waits at an Owner of -2", impl.Mutex{Owner: -2, Wait: []int{0}}, false},
		{"the goroutine 0 waits", impl.Mutex{Owner: 1, Wait: []int{0}}, true},
		{"the greatest goroutine waits", impl.Mutex{Owner: 1, Wait: []int{math.MaxInt}}, true},
		{"one of -1 waits", impl.Mutex{Owner: 1, Wait: []int{-1}}, false},
		{"the least int waits", impl.Mutex{Owner: 1, Wait: []int{math.MinInt}}, false},
		{"one of -1 waits behind others", impl.Mutex{Owner: 1, Wait: []int{2, 3, -1}}, false},
		{"two neighbours alike", impl.Mutex{Owner: 1, Wait: []int{2, 2}}, false},
		{"two alike that are no neighbours", impl.Mutex{Owner: 1, Wait: []int{2, 3, 2}}, false},
		{"two alike at the end", impl.Mutex{Owner: 1, Wait: []int{4, 3, 2, 2}}, false},
		{"two of 0", impl.Mutex{Owner: 1, Wait: []int{0, 0}}, false},
		{"the Owner waits", impl.Mutex{Owner: 1, Wait: []int{1}}, false},
		{"the Owner 0 waits", impl.Mutex{Wait: []int{0}}, false},
		{"the Owner waits behind others", impl.Mutex{Owner: 1, Wait: []int{2, 3, 1}}, false},
		{"the greatest Owner waits", impl.Mutex{Owner: math.MaxInt, Wait: []int{math.MaxInt}}, false},
		{"the lowest ten", impl.Mutex{Wait: []int{9, 8, 7, 6, 5, 4, 3, 2, 1}}, true},
		{"far more than an engine has", impl.Mutex{Owner: 1000, Wait: upTo(1000)}, true},
		{"the Owner is the last of many", impl.Mutex{Owner: 999, Wait: upTo(1000)}, false},
	} {
		if got := impl.MutexOk(x.m); got != x.right {
			t.Errorf("%s: MutexOk is %v", x.what, got)
		}
	}
}

// upTo are the ints from 0 to below n.
func upTo(n int) []int {
	l := make([]int, n)
	for i := range l {
		l[i] = i
	}
	return l
}

// In a list of many, each one is looked at, and held against each other one.
func TestMutexOkOfTheWrongOneOfMany(t *testing.T) {
	const owner = 50
	for at := range 9 {
		for _, bad := range []int{-1, math.MinInt, owner} {
			wait := upTo(9)
			wait[at] = bad
			if impl.MutexOk(impl.Mutex{Owner: owner, Wait: wait}) {
				t.Errorf("right with %d in Wait at %d", bad, at)
			}
		}
		for other := range 9 {
			wait := upTo(9)
			wait[at] = wait[other]
			if got := impl.MutexOk(impl.Mutex{Owner: owner, Wait: wait}); got != (at == other) {
				t.Errorf("%v: MutexOk is %v", wait, got)
			}
		}
	}
}

func TestMutexNew(t *testing.T) {
	m := impl.MutexNew()
	if m.Owner != -1 || len(m.Wait) != 0 || !impl.MutexOk(m) {
		t.Fatalf("MutexNew() = %+v", m)
	}
	other := impl.MutexNew()
	m.Owner = 4
	m.Wait = append(m.Wait, 5, 6)
	other.Wait = append(other.Wait, 7, 8)
	spoilList(m.Wait, roomMark)
	if other.Owner != -1 || !slices.Equal(other.Wait, []int{7, 8}) {
		t.Errorf("a new one has %+v of another", other)
	}
	if next := impl.MutexNew(); !sameMutex(next, impl.Mutex{Owner: -1}) {
		t.Errorf("MutexNew() = %+v behind another that was spoilt", next)
	}
}

func TestLockOneByOne(t *testing.T) {
	free := impl.Mutex{Owner: -1}
	three := impl.Mutex{Owner: 5, Wait: []int{8, 0, 2}}
	for _, x := range []struct {
		what string
		m    impl.Mutex
		g    int
		want mutexTold
	}{
		{"a free one", free, 3, mutexTold{m: impl.Mutex{Owner: 3}, has: true, accepted: true}},
		{"a free one by 0", free, 0, mutexTold{has: true, accepted: true}},
		{"a free one by the greatest", free, math.MaxInt, mutexTold{m: impl.Mutex{Owner: math.MaxInt}, has: true, accepted: true}},
		{"a free one by -1", free, -1, mutexTold{}},
		{"a free one by the least", free, math.MinInt, mutexTold{}},
		{"taken, nobody waits", impl.Mutex{Owner: 5}, 3, mutexTold{m: impl.Mutex{Owner: 5, Wait: []int{3}}, accepted: true}},
		{"taken by 0, nobody waits", impl.Mutex{}, 3, mutexTold{m: impl.Mutex{Wait: []int{3}}, accepted: true}},
		{"taken, one waits", impl.Mutex{Owner: 5, Wait: []int{8}}, 3, mutexTold{m: impl.Mutex{Owner: 5, Wait: []int{8, 3}}, accepted: true}},
		{"taken, three wait", three, 3, mutexTold{m: impl.Mutex{Owner: 5, Wait: []int{8, 0, 2, 3}}, accepted: true}},
		{"taken, by the greatest", three, math.MaxInt, mutexTold{m: impl.Mutex{Owner: 5, Wait: []int{8, 0, 2, math.MaxInt}}, accepted: true}},
		{"taken, by -1", three, -1, mutexTold{}},
		{"taken, by the least", three, math.MinInt, mutexTold{}},
		{"by the only one that waits", impl.Mutex{Owner: 5, Wait: []int{8}}, 8, mutexTold{}},
		{"by the first that waits", three, 8, mutexTold{}},
		{"by the one in the middle", three, 0, mutexTold{}},
		{"by the last that waits", three, 2, mutexTold{}},
		{"by the Owner, nobody waits", impl.Mutex{Owner: 5}, 5, mutexTold{m: impl.Mutex{Owner: 5}}},
		{"by the Owner 0", impl.Mutex{Wait: []int{1}}, 0, mutexTold{m: impl.Mutex{Wait: []int{1}}}},
		{"by the Owner, three wait", three, 5, mutexTold{m: three}},
		{"a wrong Owner", impl.Mutex{Owner: -2}, 3, mutexTold{}},
		{"a wrong Owner, by itself", impl.Mutex{Owner: -2}, -2, mutexTold{}},
		{"one waits where nobody has it", impl.Mutex{Owner: -1, Wait: []int{8}}, 3, mutexTold{}},
		{"two alike wait", impl.Mutex{Owner: 5, Wait: []int{8, 8}}, 3, mutexTold{}},
		{"two alike wait, by the Owner", impl.Mutex{Owner: 5, Wait: []int{8, 8}}, 5, mutexTold{}},
		{"one of -1 waits", impl.Mutex{Owner: 5, Wait: []int{-1}}, 3, mutexTold{}},
		{"one of -1 waits, by the Owner", impl.Mutex{Owner: 5, Wait: []int{-1}}, 5, mutexTold{}},
		{"the Owner waits", impl.Mutex{Owner: 5, Wait: []int{5}}, 3, mutexTold{}},
		{"the Owner waits, by the Owner", impl.Mutex{Owner: 5, Wait: []int{5}}, 5, mutexTold{}},
	} {
		wantMutexTold(t, x.what, gotLock(x.m, x.g), x.want)
	}
}

func TestUnlockOneByOne(t *testing.T) {
	three := impl.Mutex{Owner: 5, Wait: []int{8, 0, 2}}
	for _, x := range []struct {
		what string
		m    impl.Mutex
		g    int
		want mutexTold
	}{
		{"nobody waits", impl.Mutex{Owner: 5}, 5, mutexTold{m: impl.Mutex{Owner: -1}, next: -1, accepted: true}},
		{"nobody waits at 0", impl.Mutex{}, 0, mutexTold{m: impl.Mutex{Owner: -1}, next: -1, accepted: true}},
		{"nobody waits at the greatest", impl.Mutex{Owner: math.MaxInt}, math.MaxInt, mutexTold{m: impl.Mutex{Owner: -1}, next: -1, accepted: true}},
		{"one waits", impl.Mutex{Owner: 5, Wait: []int{8}}, 5, mutexTold{m: impl.Mutex{Owner: 8}, next: 8, accepted: true}},
		{"0 waits", impl.Mutex{Owner: 5, Wait: []int{0}}, 5, mutexTold{next: 0, accepted: true}},
		{"three wait", three, 5, mutexTold{m: impl.Mutex{Owner: 8, Wait: []int{0, 2}}, next: 8, accepted: true}},
		{"two wait, the greater one ahead", impl.Mutex{Owner: 0, Wait: []int{math.MaxInt, 1}}, 0, mutexTold{m: impl.Mutex{Owner: math.MaxInt, Wait: []int{1}}, next: math.MaxInt, accepted: true}},
		{"by another one", impl.Mutex{Owner: 5}, 4, mutexTold{}},
		{"by another one, three wait", three, 4, mutexTold{}},
		{"by the first that waits", three, 8, mutexTold{}},
		{"by the last that waits", three, 2, mutexTold{}},
		{"by -1", three, -1, mutexTold{}},
		{"by the least", three, math.MinInt, mutexTold{}},
		{"a free one by 0", impl.Mutex{Owner: -1}, 0, mutexTold{}},
		{"a free one by 5", impl.Mutex{Owner: -1}, 5, mutexTold{}},
		{"a free one by -1", impl.Mutex{Owner: -1}, -1, mutexTold{}},
		{"a wrong Owner by itself", impl.Mutex{Owner: -2}, -2, mutexTold{}},
		{"one waits where nobody has it", impl.Mutex{Owner: -1, Wait: []int{8}}, 8, mutexTold{}},
		{"one waits where nobody has it, by -1", impl.Mutex{Owner: -1, Wait: []int{8}}, -1, mutexTold{}},
		{"two alike wait", impl.Mutex{Owner: 5, Wait: []int{8, 8}}, 5, mutexTold{}},
		{"two alike wait at the end", impl.Mutex{Owner: 5, Wait: []int{8, 1, 1}}, 5, mutexTold{}},
		{"one of -1 waits", impl.Mutex{Owner: 5, Wait: []int{-1}}, 5, mutexTold{}},
		{"the Owner waits", impl.Mutex{Owner: 5, Wait: []int{8, 5}}, 5, mutexTold{}},
	} {
		wantMutexTold(t, x.what, gotUnlock(x.m, x.g), x.want)
	}
}

// lockRow keeps who has a mutex and who came behind whom, by itself: the first of row has it.
type lockRow struct {
	t   *testing.T
	m   impl.Mutex
	row []int
}

func (x *lockRow) lock(g int) {
	d, has, accepted := impl.Lock(x.m, g)
	if slices.Contains(x.row, g) {
		if has || accepted {
			x.t.Fatalf("Lock(%+v, %d) is accepted a second time", x.m, g)
		}
		return
	}
	x.row = append(x.row, g)
	if !accepted || has != (len(x.row) == 1) {
		x.t.Fatalf("Lock(%+v, %d) = %v %v", x.m, g, has, accepted)
	}
	x.m = d
}

func (x *lockRow) unlock(g int) {
	d, next, accepted := impl.Unlock(x.m, g)
	if len(x.row) == 0 || x.row[0] != g {
		if next != 0 || accepted {
			x.t.Fatalf("Unlock(%+v, %d) = %d %v", x.m, g, next, accepted)
		}
		return
	}
	x.row = x.row[1:]
	want := append(slices.Clone(x.row), -1)[0]
	if !accepted || next != want {
		x.t.Fatalf("Unlock(%+v, %d) = %d %v, not %d", x.m, g, next, accepted, want)
	}
	x.m = d
}

func (x *lockRow) check() {
	want := impl.MutexNew()
	if len(x.row) != 0 {
		want = impl.Mutex{Owner: x.row[0], Wait: x.row[1:]}
	}
	if !impl.MutexOk(x.m) || !sameMutex(x.m, want) {
		x.t.Fatalf("%+v, not %+v", x.m, want)
	}
}

// One has it at a time, and those that want it get it in the order in which they came.
func TestMutexOrder(t *testing.T) {
	roll := dice()
	for _, lean := range []int{1, 2, 3, 4} {
		for _, many := range []int{2, 5, 10, 60} {
			x := &lockRow{t: t, m: impl.MutexNew()}
			for range 800 {
				switch g := roll(many+1) - 1; {
				case roll(6) == 0:
					x.unlock(g)
				case roll(5) < lean && g >= 0:
					x.lock(g)
				default:
					x.unlock(append(slices.Clone(x.row), g)[0])
				}
				x.check()
			}
		}
	}
}

func TestMutexComesToAllInTheirOrder(t *testing.T) {
	came := []int{6, 0, 9, 3, math.MaxInt, 1, 4}
	m := impl.MutexNew()
	for i, g := range came {
		d, has, accepted := impl.Lock(m, g)
		if has != (i == 0) || !accepted {
			t.Fatalf("Lock(%+v, %d) = %v %v", m, g, has, accepted)
		}
		m = d
	}
	for i, g := range came {
		d, next, accepted := impl.Unlock(m, g)
		want := append(slices.Clone(came[i+1:]), -1)[0]
		if !accepted || next != want || d.Owner != want {
			t.Fatalf("Unlock(%+v, %d) = %+v %d %v, not %d", m, g, d, next, accepted, want)
		}
		m = d
	}
	if !sameMutex(m, impl.MutexNew()) {
		t.Errorf("%+v behind all of them", m)
	}
}

// mutexCall is one call of the layer with a mutex.
type mutexCall struct {
	what string
	call func(m impl.Mutex) mutexTold
}

func mutexCalls() []mutexCall {
	l := []mutexCall{{"MutexOk", func(m impl.Mutex) mutexTold { return mutexTold{accepted: impl.MutexOk(m)} }}}
	for _, g := range []int{0, 2, 7, 77, math.MaxInt, -1} {
		l = append(l, mutexCall{"Lock", func(m impl.Mutex) mutexTold { return gotLock(m, g) }})
		l = append(l, mutexCall{"Unlock", func(m impl.Mutex) mutexTold { return gotUnlock(m, g) }})
	}
	l = append(l, mutexCall{"Lock by the Owner", func(m impl.Mutex) mutexTold { return gotLock(m, m.Owner) }})
	return append(l, mutexCall{"Unlock by the Owner", func(m impl.Mutex) mutexTold { return gotUnlock(m, m.Owner) }})
}

// roomyMutex is m in a list with marks ahead of it and in the room behind its end, and whether all of that is as it was.
func roomyMutex(m impl.Mutex) (impl.Mutex, func() bool) {
	n := len(m.Wait) + 1
	all := slices.Concat([]int{roomMark}, m.Wait, []int{roomMark, roomMark, roomMark})
	kept := slices.Clone(all)
	return impl.Mutex{Owner: m.Owner, Wait: all[1:n]}, func() bool { return slices.Equal(all, kept) }
}

func TestMutexLeavesArguments(t *testing.T) {
	for _, m := range allMutexes() {
		for _, x := range mutexCalls() {
			d, kept := roomyMutex(m)
			x.call(d)
			if !kept() || !sameMutex(m, d) {
				t.Fatalf("%s changes %+v to %+v", x.what, m, d)
			}
		}
	}
}

func TestMutexAnswersAreNewMemory(t *testing.T) {
	for _, m := range allMutexes() {
		for _, x := range mutexCalls() {
			d, kept := roomyMutex(m)
			want := x.call(m)
			want.m = copyMutex(want.m)
			got := x.call(d)
			spoilList(got.m.Wait, 555)
			if !kept() {
				t.Fatalf("%s of %+v: the answer shares memory with the argument", x.what, m)
			}
			again := x.call(d)
			if !sameMutexTold(again, want) {
				t.Fatalf("%s of %+v: told otherwise the second time", x.what, m)
			}
			spoilList(d.Wait, 555)
			if !sameMutexTold(again, want) {
				t.Fatalf("%s of %+v: the answer changes with the argument", x.what, m)
			}
		}
	}
}

func TestMutexOfNilAndEmptyLists(t *testing.T) {
	for _, m := range allMutexes() {
		other := impl.Mutex{Owner: m.Owner, Wait: turned(m.Wait)}
		for _, x := range mutexCalls() {
			if got, want := x.call(other), x.call(m); !sameMutexTold(got, want) {
				t.Fatalf("%s of %+v: %+v with nil and empty lists exchanged, not %+v", x.what, m, got, want)
			}
		}
	}
}

// Asking of one mutex leaves nothing behind for the next call.
func TestMutexKeepsNothing(t *testing.T) {
	others := []impl.Mutex{impl.MutexNew(), {Owner: -2}, {Owner: 2, Wait: []int{0, 7, 1}}, {Owner: 7, Wait: []int{7}}}
	for _, m := range allMutexes() {
		for _, x := range mutexCalls() {
			want := x.call(m)
			for _, y := range mutexCalls() {
				for _, other := range others {
					y.call(other)
				}
			}
			if got := x.call(m); !sameMutexTold(got, want) {
				t.Fatalf("%s of %+v: %+v behind other calls, not %+v", x.what, m, got, want)
			}
		}
	}
}
