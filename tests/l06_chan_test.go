package tests

import (
	"math"
	"slices"
	"testing"

	"loop.example/g00679/impl"
)

// waiterRight is what the document says of one that waits on either side.
func waiterRight(w impl.Waiter, receives bool) bool {
	if w.G < 0 || w.Case < -1 {
		return false
	}
	if receives {
		return w.Val == 0
	}
	return w.Val >= 0 && w.Val <= 999
}

// wantChanOk says the document's conditions one by one.
func wantChanOk(c impl.Chan) bool {
	if c.Cap < 0 || c.Cap > 4 || len(c.Buf) > c.Cap {
		return false
	}
	for _, v := range c.Buf {
		if v < 0 || v > 999 {
			return false
		}
	}
	for _, w := range c.Sends {
		if !waiterRight(w, false) {
			return false
		}
	}
	for _, w := range c.Recvs {
		if !waiterRight(w, true) {
			return false
		}
	}
	if len(c.Sends) != 0 && (len(c.Buf) != c.Cap || len(c.Recvs) != 0 || c.Closed) {
		return false
	}
	if len(c.Recvs) != 0 && (len(c.Buf) != 0 || c.Closed) {
		return false
	}
	return true
}

func wantCanSend(c impl.Chan) bool {
	return wantChanOk(c) && (c.Closed || len(c.Recvs) != 0 || len(c.Buf) < c.Cap)
}

func wantCanRecv(c impl.Chan) bool {
	return wantChanOk(c) && (len(c.Buf) != 0 || len(c.Sends) != 0 || c.Closed)
}

// told is all that SendTo, RecvFrom or CloseIt answers; what one of them doesn't answer is left zero.
type told struct {
	c            impl.Chan
	v            int
	sent         bool
	w            impl.Waiter
	recvs, sends []impl.Waiter
	code         int
}

func sameChan(a, b impl.Chan) bool {
	return a.Cap == b.Cap && slices.Equal(a.Buf, b.Buf) && slices.Equal(a.Sends, b.Sends) && slices.Equal(a.Recvs, b.Recvs) && a.Closed == b.Closed
}

func sameTold(a, b told) bool {
	return sameChan(a.c, b.c) && a.v == b.v && a.sent == b.sent && a.w == b.w && slices.Equal(a.recvs, b.recvs) && slices.Equal(a.sends, b.sends) && a.code == b.code
}

func copyChan(c impl.Chan) impl.Chan {
	return impl.Chan{Cap: c.Cap, Buf: slices.Clone(c.Buf), Sends: slices.Clone(c.Sends), Recvs: slices.Clone(c.Recvs), Closed: c.Closed}
}

// none is the waiter that is told where there is none.
func none() impl.Waiter {
	return impl.Waiter{G: -1}
}

func wantSend(c impl.Chan, v int) told {
	if !wantChanOk(c) || v < 0 || v > 999 {
		return told{code: 1}
	}
	if c.Closed {
		return told{code: 2}
	}
	if !wantCanSend(c) {
		return told{code: 3}
	}
	d := copyChan(c)
	if len(c.Recvs) != 0 {
		d.Recvs = d.Recvs[1:]
		return told{c: d, w: c.Recvs[0]}
	}
	d.Buf = append(d.Buf, v)
	return told{c: d, w: none()}
}

func wantRecv(c impl.Chan) told {
	if !wantChanOk(c) {
		return told{code: 1}
	}
	if !wantCanRecv(c) {
		return told{code: 3}
	}
	d := copyChan(c)
	switch {
	case len(c.Buf) != 0 && len(c.Sends) != 0:
		d.Sends = d.Sends[1:]
		d.Buf = append(d.Buf[1:], c.Sends[0].Val)
		return told{c: d, v: c.Buf[0], sent: true, w: c.Sends[0]}
	case len(c.Buf) != 0:
		d.Buf = d.Buf[1:]
		return told{c: d, v: c.Buf[0], sent: true, w: none()}
	case len(c.Sends) != 0:
		d.Sends = d.Sends[1:]
		return told{c: d, v: c.Sends[0].Val, sent: true, w: c.Sends[0]}
	}
	return told{c: d, w: none()}
}

func wantClose(c impl.Chan) told {
	if !wantChanOk(c) {
		return told{code: 1}
	}
	if c.Closed {
		return told{code: 2}
	}
	return told{c: impl.Chan{Cap: c.Cap, Buf: c.Buf, Closed: true}, recvs: c.Recvs, sends: c.Sends}
}

func gotSend(c impl.Chan, v int) told {
	d, w, code := impl.SendTo(c, v)
	return told{c: d, w: w, code: code}
}

func gotRecv(c impl.Chan) told {
	d, v, sent, w, code := impl.RecvFrom(c)
	return told{c: d, v: v, sent: sent, w: w, code: code}
}

func gotClose(c impl.Chan) told {
	d, recvs, sends, code := impl.CloseIt(c)
	return told{c: d, recvs: recvs, sends: sends, code: code}
}

// sentValues are values and ints that are none.
func sentValues() []int {
	return []int{0, 1, 500, 999, -1, 1000, -999, 1 << 32, 1<<32 + 7, math.MinInt, math.MaxInt}
}

func chanCaps() []int {
	return []int{0, 1, 2, 3, 4, 5, 6, -1, -2, 1 << 32, 1<<32 + 2, math.MinInt, math.MaxInt}
}

func chanBufs() [][]int {
	return [][]int{
		nil, {}, {0}, {999}, {7, 3}, {0, 999}, {3, 3, 3}, {9, 1, 8, 2}, {9, 1, 8, 2, 7}, {0, 0, 0, 0, 0, 0},
		{-1}, {1000}, {5, -1}, {1000, 5}, {5, 6, math.MaxInt}, {1, math.MinInt, 1, 1}, {1, 2, 3, 1000}, {1<<32 + 1},
	}
}

func chanSends() [][]impl.Waiter {
	return [][]impl.Waiter{
		nil, {},
		{{G: 0, Case: -1, Val: 0}},
		{{G: 4, Case: 0, Val: 999}},
		{{G: 3, Case: 2, Val: 11}, {G: 1, Case: -1, Val: 12}},
		{{G: 2, Case: 1, Val: 21}, {G: 2, Case: 0, Val: 22}, {G: math.MaxInt, Case: math.MaxInt, Val: 23}},
		{{G: -1, Case: -1, Val: 5}},
		{{G: 1, Case: -2, Val: 5}},
		{{G: 1, Case: -1, Val: -1}},
		{{G: 1, Case: -1, Val: 1000}},
		{{G: 1, Case: 0, Val: 5}, {G: math.MinInt, Case: 0, Val: 6}},
		{{G: 1, Case: math.MinInt, Val: 5}, {G: 2, Case: 0, Val: 6}},
		{{G: 1, Case: 0, Val: 5}, {G: 2, Case: 0, Val: 6}, {G: 3, Case: 0, Val: math.MaxInt}},
	}
}

func chanRecvs() [][]impl.Waiter {
	return [][]impl.Waiter{
		nil, {},
		{{G: 0, Case: -1}},
		{{G: 5, Case: 3}},
		{{G: 8, Case: -1}, {G: 6, Case: 1}},
		{{G: 7, Case: 0}, {G: 7, Case: 1}, {G: math.MaxInt, Case: math.MaxInt}},
		{{G: -1, Case: -1}},
		{{G: 1, Case: -2}},
		{{G: 1, Case: -1, Val: 1}},
		{{G: 1, Case: -1, Val: -1}},
		{{G: 1, Case: 0}, {G: 2, Case: 0, Val: 999}},
		{{G: 1, Case: 0}, {G: 2, Case: math.MinInt}},
		{{G: math.MinInt, Case: 0}, {G: 2, Case: 0}},
	}
}

// allChans has each of these parts with each other one: right channels, and such as are wrong in one way or in many.
func allChans() []impl.Chan {
	var l []impl.Chan
	for _, room := range chanCaps() {
		for _, buf := range chanBufs() {
			for _, sends := range chanSends() {
				for _, recvs := range chanRecvs() {
					l = append(l, impl.Chan{Cap: room, Buf: buf, Sends: sends, Recvs: recvs}, impl.Chan{Cap: room, Buf: buf, Sends: sends, Recvs: recvs, Closed: true})
				}
			}
		}
	}
	return l
}

func rightChans() []impl.Chan {
	var l []impl.Chan
	for _, c := range allChans() {
		if wantChanOk(c) {
			l = append(l, c)
		}
	}
	return l
}

// A conversion is built only where fields, their order and their types are the document's.
func TestChanTypes(t *testing.T) {
	w := impl.Waiter(struct{ G, Case, Val int }{1, 2, 3})
	if w != (impl.Waiter{G: 1, Case: 2, Val: 3}) {
		t.Errorf("a waiter is %v", w)
	}
	c := impl.Chan(struct {
		Cap    int
		Buf    []int
		Sends  []impl.Waiter
		Recvs  []impl.Waiter
		Closed bool
	}{2, []int{4}, []impl.Waiter{w}, nil, true})
	if !sameChan(c, impl.Chan{Cap: 2, Buf: []int{4}, Sends: []impl.Waiter{w}, Closed: true}) {
		t.Errorf("a channel is %v", c)
	}
}

func TestChansOfAllParts(t *testing.T) {
	codes := map[string]int{}
	for _, c := range allChans() {
		if got := impl.ChanOk(c); got != wantChanOk(c) {
			t.Fatalf("ChanOk(%+v) = %v", c, got)
		}
		if got := impl.CanSend(c); got != wantCanSend(c) {
			t.Fatalf("CanSend(%+v) = %v", c, got)
		}
		if got := impl.CanRecv(c); got != wantCanRecv(c) {
			t.Fatalf("CanRecv(%+v) = %v", c, got)
		}
		for _, v := range sentValues() {
			got, want := gotSend(c, v), wantSend(c, v)
			if !sameTold(got, want) {
				t.Fatalf("SendTo(%+v, %d) = %+v, not %+v", c, v, got, want)
			}
			codes["send "+impl.NumText(want.code)]++
		}
		if got, want := gotRecv(c), wantRecv(c); !sameTold(got, want) {
			t.Fatalf("RecvFrom(%+v) = %+v, not %+v", c, got, want)
		}
		if got, want := gotClose(c), wantClose(c); !sameTold(got, want) {
			t.Fatalf("CloseIt(%+v) = %+v, not %+v", c, got, want)
		}
		codes["receive "+impl.NumText(wantRecv(c).code)]++
		codes["close "+impl.NumText(wantClose(c).code)]++
	}
	for _, met := range []string{"send 0", "send 1", "send 2", "send 3", "receive 0", "receive 1", "receive 3", "close 0", "close 1", "close 2"} {
		if codes[met] == 0 {
			t.Errorf("never met: %s", met)
		}
	}
}

// judged is a channel and whether it is right.
type judged struct {
	what  string
	c     impl.Chan
	right bool
}

func TestChanOkOneByOne(t *testing.T) {
	one := func(g, x, v int) []impl.Waiter { return []impl.Waiter{{G: g, Case: x, Val: v}} }
	for _, x := range []judged{
		{"nothing of it", impl.Chan{}, true},
		{"a Cap of 4", impl.Chan{Cap: 4}, true},
		{"a Cap of 5", impl.Chan{Cap: 5}, false},
		{"a Cap of -1", impl.Chan{Cap: -1}, false},
		{"as many values as Cap", impl.Chan{Cap: 2, Buf: []int{1, 2}}, true},
		{"one value more than Cap", impl.Chan{Cap: 2, Buf: []int{1, 2, 3}}, false},
		{"a value with a Cap of 0", impl.Chan{Buf: []int{1}}, false},
		{"the least and the greatest value", impl.Chan{Cap: 2, Buf: []int{0, 999}}, true},
		{"a value of -1", impl.Chan{Cap: 2, Buf: []int{0, -1}}, false},
		{"a value of 1000", impl.Chan{Cap: 2, Buf: []int{1000, 0}}, false},
		{"a sender with the least of all", impl.Chan{Sends: one(0, -1, 0)}, true},
		{"a sender with 999", impl.Chan{Sends: one(0, -1, 999)}, true},
		{"a sender far out", impl.Chan{Sends: one(math.MaxInt, math.MaxInt, 0)}, true},
		{"a sender of a G of -1", impl.Chan{Sends: one(-1, -1, 0)}, false},
		{"a sender of a Case of -2", impl.Chan{Sends: one(0, -2, 0)}, false},
		{"a sender with -1", impl.Chan{Sends: one(0, -1, -1)}, false},
		{"a sender with 1000", impl.Chan{Sends: one(0, -1, 1000)}, false},
		{"a receiver with the least of all", impl.Chan{Cap: 2, Recvs: one(0, -1, 0)}, true},
		{"a receiver far out", impl.Chan{Cap: 2, Recvs: one(math.MaxInt, math.MaxInt, 0)}, true},
		{"a receiver of a G of -1", impl.Chan{Recvs: one(-1, -1, 0)}, false},
		{"a receiver of a Case of -2", impl.Chan{Recvs: one(0, -2, 0)}, false},
		{"a receiver with 1", impl.Chan{Recvs: one(0, -1, 1)}, false},
		{"a receiver with -1", impl.Chan{Recvs: one(0, -1, -1)}, false},
		{"a sender at a full Buf", impl.Chan{Cap: 1, Buf: []int{1}, Sends: one(0, -1, 0)}, true},
		{"a sender at a Buf with room", impl.Chan{Cap: 2, Buf: []int{1}, Sends: one(0, -1, 0)}, false},
		{"a sender at an empty Buf", impl.Chan{Cap: 1, Sends: one(0, -1, 0)}, false},
		{"a sender and a receiver", impl.Chan{Sends: one(0, -1, 0), Recvs: one(1, -1, 0)}, false},
		{"a sender at a closed channel", impl.Chan{Sends: one(0, -1, 0), Closed: true}, false},
		{"a sender at a full one that is closed", impl.Chan{Cap: 1, Buf: []int{1}, Sends: one(0, -1, 0), Closed: true}, false},
		{"a receiver at a Buf with a value", impl.Chan{Cap: 2, Buf: []int{1}, Recvs: one(0, -1, 0)}, false},
		{"a receiver at a full Buf", impl.Chan{Cap: 1, Buf: []int{1}, Recvs: one(0, -1, 0)}, false},
		{"a receiver at a closed channel", impl.Chan{Cap: 1, Recvs: one(0, -1, 0), Closed: true}, false},
		{"closed and empty", impl.Chan{Closed: true}, true},
		{"closed with values", impl.Chan{Cap: 3, Buf: []int{1, 2}, Closed: true}, true},
		{"closed and full", impl.Chan{Cap: 1, Buf: []int{1}, Closed: true}, true},
	} {
		if got := impl.ChanOk(x.c); got != x.right {
			t.Errorf("%s: ChanOk is %v", x.what, got)
		}
	}
}

// In a list of many, each one is looked at.
func TestChanOkOfTheWrongOneOfMany(t *testing.T) {
	for at := range 9 {
		for wrong := range 4 {
			bad := []impl.Waiter{{G: -1}, {Case: -2}, {Val: -1}, {Val: 1000}}[wrong]
			many := make([]impl.Waiter, 9)
			if !impl.ChanOk(impl.Chan{Sends: many}) || !impl.ChanOk(impl.Chan{Recvs: many}) {
				t.Fatal("nine right ones are wrong")
			}
			many[at] = bad
			if impl.ChanOk(impl.Chan{Sends: many}) {
				t.Errorf("right with %v in Sends at %d", bad, at)
			}
			if impl.ChanOk(impl.Chan{Recvs: many}) {
				t.Errorf("right with %v in Recvs at %d", bad, at)
			}
		}
	}
	for at := range 4 {
		for _, v := range []int{-1, 1000} {
			buf := []int{1, 2, 3, 4}
			buf[at] = v
			if impl.ChanOk(impl.Chan{Cap: 4, Buf: buf}) {
				t.Errorf("right with %d in Buf at %d", v, at)
			}
		}
	}
}

func TestCanSendAndCanRecvByOneCondition(t *testing.T) {
	waits := []impl.Waiter{{G: 1, Case: -1}}
	for _, x := range []struct {
		what       string
		c          impl.Chan
		send, recv bool
	}{
		{"nothing of it", impl.Chan{}, false, false},
		{"closed alone", impl.Chan{Closed: true}, true, true},
		{"closed and full", impl.Chan{Cap: 1, Buf: []int{3}, Closed: true}, true, true},
		{"one receives", impl.Chan{Recvs: waits}, true, false},
		{"one sends", impl.Chan{Sends: waits}, false, true},
		{"one sends at a full one", impl.Chan{Cap: 1, Buf: []int{3}, Sends: waits}, false, true},
		{"room and no value", impl.Chan{Cap: 1}, true, false},
		{"a value and no room", impl.Chan{Cap: 1, Buf: []int{3}}, false, true},
		{"a value and room for one", impl.Chan{Cap: 4, Buf: []int{3, 3, 3}}, true, true},
		{"wrong by its Cap, with room", impl.Chan{Cap: 5, Buf: []int{3}}, false, false},
		{"wrong by its Cap, closed", impl.Chan{Cap: -1, Closed: true}, false, false},
		{"wrong by a value, closed, with room", impl.Chan{Cap: 4, Buf: []int{1000}, Closed: true}, false, false},
		{"wrong by one that waits on each side", impl.Chan{Sends: waits, Recvs: waits}, false, false},
		{"wrong by one that waits at a closed one", impl.Chan{Recvs: waits, Closed: true}, false, false},
		{"wrong by a value in Recvs", impl.Chan{Recvs: []impl.Waiter{{Val: 1}}}, false, false},
		{"wrong by a G in Sends", impl.Chan{Sends: []impl.Waiter{{G: -1}}}, false, false},
	} {
		if got := impl.CanSend(x.c); got != x.send {
			t.Errorf("%s: CanSend is %v", x.what, got)
		}
		if got := impl.CanRecv(x.c); got != x.recv {
			t.Errorf("%s: CanRecv is %v", x.what, got)
		}
	}
}

func wantTold(t *testing.T, what string, got, want told) {
	t.Helper()
	if !sameTold(got, want) {
		t.Errorf("%s: %+v, not %+v", what, got, want)
	}
}

func TestSendToOneByOne(t *testing.T) {
	two := []impl.Waiter{{G: 4, Case: 2}, {G: 1, Case: -1}}
	sender := []impl.Waiter{{G: 1, Case: -1, Val: 6}}
	wantTold(t, "two wait", gotSend(impl.Chan{Cap: 2, Recvs: two}, 9), told{c: impl.Chan{Cap: 2, Recvs: two[1:]}, w: two[0]})
	wantTold(t, "one waits", gotSend(impl.Chan{Recvs: two[1:]}, 0), told{w: two[1]})
	wantTold(t, "an empty Buf", gotSend(impl.Chan{Cap: 1}, 999), told{c: impl.Chan{Cap: 1, Buf: []int{999}}, w: none()})
	wantTold(t, "room for one", gotSend(impl.Chan{Cap: 3, Buf: []int{5, 4}}, 6), told{c: impl.Chan{Cap: 3, Buf: []int{5, 4, 6}}, w: none()})
	for _, x := range []struct {
		what string
		c    impl.Chan
		v    int
		code int
	}{
		{"a wrong channel", impl.Chan{Cap: 5}, 1, 1},
		{"a value of -1", impl.Chan{Cap: 1}, -1, 1},
		{"a value of 1000", impl.Chan{Cap: 1}, 1000, 1},
		{"a value of 1000 to one that waits", impl.Chan{Recvs: two}, 1000, 1},
		{"a wrong channel and a wrong value", impl.Chan{Cap: 5}, -1, 1},
		{"a closed one", impl.Chan{Cap: 1, Closed: true}, 1, 2},
		{"a closed one that is full", impl.Chan{Cap: 1, Buf: []int{1}, Closed: true}, 1, 2},
		{"a closed one of a Cap of 0", impl.Chan{Closed: true}, 1, 2},
		{"a closed one that is wrong", impl.Chan{Cap: 5, Closed: true}, 1, 1},
		{"a closed one at which one waits", impl.Chan{Recvs: two, Closed: true}, 1, 1},
		{"a wrong value to a closed one", impl.Chan{Closed: true}, 1000, 1},
		{"a full one", impl.Chan{Cap: 1, Buf: []int{1}}, 1, 3},
		{"a Cap of 0", impl.Chan{}, 1, 3},
		{"a full one at which one waits", impl.Chan{Cap: 1, Buf: []int{1}, Sends: sender}, 1, 3},
		{"a Cap of 0 at which one waits", impl.Chan{Sends: sender}, 1, 3},
		{"a wrong value to a full one", impl.Chan{Cap: 1, Buf: []int{1}}, -1, 1},
		{"a full one that is wrong", impl.Chan{Cap: 1, Buf: []int{1000}}, 1, 1},
	} {
		wantTold(t, x.what, gotSend(x.c, x.v), told{code: x.code})
	}
}

func TestRecvFromOneByOne(t *testing.T) {
	two := []impl.Waiter{{G: 4, Case: 2, Val: 41}, {G: 1, Case: -1, Val: 11}}
	recvs := []impl.Waiter{{G: 3, Case: -1}}
	wantTold(t, "a value", gotRecv(impl.Chan{Cap: 2, Buf: []int{7}}), told{c: impl.Chan{Cap: 2}, v: 7, sent: true, w: none()})
	wantTold(t, "a value of 0", gotRecv(impl.Chan{Cap: 1, Buf: []int{0}}), told{c: impl.Chan{Cap: 1}, sent: true, w: none()})
	wantTold(t, "three values", gotRecv(impl.Chan{Cap: 4, Buf: []int{7, 8, 6}}), told{c: impl.Chan{Cap: 4, Buf: []int{8, 6}}, v: 7, sent: true, w: none()})
	wantTold(t, "one waits at one value", gotRecv(impl.Chan{Cap: 1, Buf: []int{7}, Sends: two[1:]}), told{c: impl.Chan{Cap: 1, Buf: []int{11}}, v: 7, sent: true, w: two[1]})
	wantTold(t, "two wait at two values", gotRecv(impl.Chan{Cap: 2, Buf: []int{7, 8}, Sends: two}), told{c: impl.Chan{Cap: 2, Buf: []int{8, 41}, Sends: two[1:]}, v: 7, sent: true, w: two[0]})
	wantTold(t, "one waits", gotRecv(impl.Chan{Sends: two[:1]}), told{v: 41, sent: true, w: two[0]})
	wantTold(t, "two wait", gotRecv(impl.Chan{Sends: two}), told{c: impl.Chan{Sends: two[1:]}, v: 41, sent: true, w: two[0]})
	wantTold(t, "a closed one with values", gotRecv(impl.Chan{Cap: 2, Buf: []int{7, 8}, Closed: true}), told{c: impl.Chan{Cap: 2, Buf: []int{8}, Closed: true}, v: 7, sent: true, w: none()})
	wantTold(t, "a closed one", gotRecv(impl.Chan{Cap: 2, Closed: true}), told{c: impl.Chan{Cap: 2, Closed: true}, w: none()})
	wantTold(t, "a closed one of a Cap of 0", gotRecv(impl.Chan{Closed: true}), told{c: impl.Chan{Closed: true}, w: none()})
	wantTold(t, "no value", gotRecv(impl.Chan{Cap: 2}), told{code: 3})
	wantTold(t, "a Cap of 0", gotRecv(impl.Chan{}), told{code: 3})
	wantTold(t, "one receives already", gotRecv(impl.Chan{Recvs: recvs}), told{code: 3})
	wantTold(t, "a wrong one with a value", gotRecv(impl.Chan{Cap: 5, Buf: []int{1}}), told{code: 1})
	wantTold(t, "a wrong one without a value", gotRecv(impl.Chan{Cap: -1}), told{code: 1})
	wantTold(t, "a closed one at which one waits", gotRecv(impl.Chan{Recvs: recvs, Closed: true}), told{code: 1})
	wantTold(t, "one waits at a Buf with room", gotRecv(impl.Chan{Cap: 2, Buf: []int{7}, Sends: two}), told{code: 1})
}

func TestCloseItOneByOne(t *testing.T) {
	sends := []impl.Waiter{{G: 4, Case: 2, Val: 41}, {G: 1, Case: -1, Val: 11}, {G: 4, Case: 0, Val: 12}}
	recvs := []impl.Waiter{{G: 6, Case: 1}, {G: 0, Case: -1}, {G: 6, Case: 0}}
	wantTold(t, "nobody waits", gotClose(impl.Chan{Cap: 3, Buf: []int{4, 2}}), told{c: impl.Chan{Cap: 3, Buf: []int{4, 2}, Closed: true}})
	wantTold(t, "a Cap of 0", gotClose(impl.Chan{}), told{c: impl.Chan{Closed: true}})
	wantTold(t, "three receive", gotClose(impl.Chan{Cap: 3, Recvs: recvs}), told{c: impl.Chan{Cap: 3, Closed: true}, recvs: recvs})
	wantTold(t, "three send", gotClose(impl.Chan{Sends: sends}), told{c: impl.Chan{Closed: true}, sends: sends})
	wantTold(t, "three send at a full one", gotClose(impl.Chan{Cap: 2, Buf: []int{4, 2}, Sends: sends}), told{c: impl.Chan{Cap: 2, Buf: []int{4, 2}, Closed: true}, sends: sends})
	wantTold(t, "a closed one", gotClose(impl.Chan{Cap: 2, Buf: []int{4}, Closed: true}), told{code: 2})
	wantTold(t, "a wrong one", gotClose(impl.Chan{Cap: 5}), told{code: 1})
	wantTold(t, "a wrong one that is closed", gotClose(impl.Chan{Cap: 5, Closed: true}), told{code: 1})
	wantTold(t, "a closed one at which some wait", gotClose(impl.Chan{Recvs: recvs, Closed: true}), told{code: 1})
	wantTold(t, "some wait on both sides", gotClose(impl.Chan{Sends: sends, Recvs: recvs}), told{code: 1})
}

// held are the values that a channel holds and those that wait to be let in, in the order in which they went in.
func held(c impl.Chan) []int {
	l := slices.Clone(c.Buf)
	for _, w := range c.Sends {
		l = append(l, w.Val)
	}
	return l
}

// walk sends and receives at a channel; who can't do so waits, as the goroutine with the next number.
// in is what went in and isn't out again, ahead those that wait to receive.
type walk struct {
	t     *testing.T
	c     impl.Chan
	in    []int
	ahead []impl.Waiter
	next  int
}

func (w *walk) send(v int) {
	if !impl.CanSend(w.c) {
		w.c.Sends = append(w.c.Sends, impl.Waiter{G: w.next, Case: w.next%3 - 1, Val: v})
		w.in = append(w.in, v)
		w.next++
		return
	}
	want := none()
	if len(w.ahead) != 0 {
		want, w.ahead = w.ahead[0], w.ahead[1:]
	} else {
		w.in = append(w.in, v)
	}
	d, given, code := impl.SendTo(w.c, v)
	if code != 0 || given != want {
		w.t.Fatalf("SendTo(%+v, %d) gives it to %v, code %d; not to %v", w.c, v, given, code, want)
	}
	w.c = d
}

func (w *walk) receive() {
	if !impl.CanRecv(w.c) {
		x := impl.Waiter{G: w.next, Case: w.next%3 - 1}
		w.c.Recvs = append(w.c.Recvs, x)
		w.ahead = append(w.ahead, x)
		w.next++
		return
	}
	if len(w.in) == 0 {
		w.t.Fatalf("CanRecv(%+v), but all that went in is out again", w.c)
	}
	sends := append(slices.Clone(w.c.Sends), none())
	d, v, sent, gone, code := impl.RecvFrom(w.c)
	if code != 0 || !sent || v != w.in[0] || gone != sends[0] {
		w.t.Fatalf("RecvFrom(%+v) = %d %v %v code %d, not %d and %v", w.c, v, sent, gone, code, w.in[0], sends[0])
	}
	w.c = d
	w.in = w.in[1:]
}

func (w *walk) check() {
	if !impl.ChanOk(w.c) {
		w.t.Fatalf("%+v isn't right", w.c)
	}
	if got := held(w.c); !slices.Equal(got, w.in) {
		w.t.Fatalf("%+v holds %v, not %v", w.c, got, w.in)
	}
	if !slices.Equal(w.c.Recvs, w.ahead) {
		w.t.Fatalf("%v wait, not %v", w.c.Recvs, w.ahead)
	}
}

// What went in comes out in its order, and is held till then; those that wait are served in theirs.
func TestChanOrder(t *testing.T) {
	roll := dice()
	for room := range impl.MaxCap + 1 {
		for _, lean := range []int{1, 2, 3} {
			w := &walk{t: t, c: impl.Chan{Cap: room}}
			for range 600 {
				if roll(4) < lean {
					w.send(roll(1000))
				} else {
					w.receive()
				}
				w.check()
			}
		}
	}
}

// A closed channel gives what it holds, then zeros without end.
func TestChanOrderBehindClosing(t *testing.T) {
	values := []int{9, 0, 999, 4}
	for n := range len(values) + 1 {
		c := impl.Chan{Cap: 4}
		for _, v := range values[:n] {
			c, _, _ = impl.SendTo(c, v)
		}
		c, _, _, _ = impl.CloseIt(c)
		for at := range n + 3 {
			want := told{w: none()}
			if at < n {
				want = told{v: values[at], sent: true, w: none()}
			}
			got := gotRecv(c)
			want.c = impl.Chan{Cap: 4, Buf: values[min(at+1, n):n], Closed: true}
			wantTold(t, "closed with some", got, want)
			c = got.c
		}
	}
}

func TestDropAndWaits(t *testing.T) {
	for _, l := range waiterLists() {
		for _, g := range []int{0, 1, 2, 3, 4, -1, -2, 99, math.MinInt, math.MaxInt} {
			var rest []impl.Waiter
			for _, w := range l {
				if w.G != g {
					rest = append(rest, w)
				}
			}
			if got := impl.Drop(l, g); !slices.Equal(got, rest) {
				t.Errorf("Drop(%v, %d) = %v, not %v", l, g, got, rest)
			}
			if got := impl.Waits(l, g); got != len(l)-len(rest) {
				t.Errorf("Waits(%v, %d) = %d, not %d", l, g, got, len(l)-len(rest))
			}
		}
	}
}

// waiterLists have goroutines never, once, more than once and in neighbouring places, and waiters that no right channel has.
func waiterLists() [][]impl.Waiter {
	l := [][]impl.Waiter{
		nil, {},
		{{G: 1, Case: -1, Val: 5}},
		{{G: 1, Case: 0, Val: 5}, {G: 1, Case: 1, Val: 6}},
		{{G: 1, Case: 0, Val: 5}, {G: 2, Case: 1, Val: 6}, {G: 1, Case: 2, Val: 7}},
		{{G: 0, Case: 1, Val: 1}, {G: 1, Case: 1, Val: 2}, {G: 1, Case: 1, Val: 3}, {G: 2, Case: 1, Val: 4}, {G: 1, Case: 0, Val: 5}},
		{{G: 3, Case: 1, Val: 1}, {G: 2, Case: 1, Val: 1}, {G: 1, Case: 3, Val: 3}, {G: 0, Case: 2, Val: 2}},
		{{G: -1, Case: -9, Val: -9}, {G: -2, Case: 1, Val: 1000}, {G: -1, Case: 0, Val: 1}},
		{{G: math.MinInt, Case: 3, Val: math.MinInt}, {G: math.MaxInt, Case: math.MinInt, Val: 2}, {G: math.MinInt, Case: 3, Val: 4}},
	}
	var many []impl.Waiter
	for i := range 100 {
		many = append(many, impl.Waiter{G: i * i % 7, Case: i - 1, Val: i})
	}
	return append(l, many, many[:50])
}

const roomMark = 77

// roomyChan is c in lists with room behind their ends, in which marks stand, and whether all of that is as it was.
// Sends lies behind Recvs in the same memory: what is put behind an empty Recvs would come to light there.
func roomyChan(c impl.Chan) (impl.Chan, func() bool) {
	ints := append(slices.Clone(c.Buf), roomMark, roomMark, roomMark)
	waiters := slices.Concat(c.Recvs, c.Sends, []impl.Waiter{{Val: roomMark}, {Val: roomMark}})
	n := len(c.Recvs)
	d := impl.Chan{Cap: c.Cap, Buf: ints[:len(c.Buf)], Recvs: waiters[:n], Sends: waiters[n : n+len(c.Sends)], Closed: c.Closed}
	keptInts, keptWaiters := slices.Clone(ints), slices.Clone(waiters)
	return d, func() bool { return slices.Equal(ints, keptInts) && slices.Equal(waiters, keptWaiters) }
}

// spoilList writes over all that a list reaches, the room behind its end included.
func spoilList[T any](l []T, x T) {
	l = l[:cap(l)]
	for i := range l {
		l[i] = x
	}
}

// tell is one call of the layer with a channel.
type tell struct {
	what string
	call func(c impl.Chan) told
}

func tells() []tell {
	return []tell{
		{"ChanOk", func(c impl.Chan) told { return told{sent: impl.ChanOk(c)} }},
		{"CanSend", func(c impl.Chan) told { return told{sent: impl.CanSend(c)} }},
		{"CanRecv", func(c impl.Chan) told { return told{sent: impl.CanRecv(c)} }},
		{"SendTo", func(c impl.Chan) told { return gotSend(c, 8) }},
		{"SendTo with a wrong value", func(c impl.Chan) told { return gotSend(c, -8) }},
		{"RecvFrom", gotRecv},
		{"CloseIt", gotClose},
		{"Drop of Sends", func(c impl.Chan) told { return told{sends: impl.Drop(c.Sends, 2)} }},
		{"Drop of none of Sends", func(c impl.Chan) told { return told{sends: impl.Drop(c.Sends, 98)} }},
		{"Drop of Recvs", func(c impl.Chan) told { return told{recvs: impl.Drop(c.Recvs, 7)} }},
		{"Drop of none of Recvs", func(c impl.Chan) told { return told{recvs: impl.Drop(c.Recvs, 98)} }},
		{"Waits", func(c impl.Chan) told { return told{v: impl.Waits(c.Sends, 2) + impl.Waits(c.Recvs, 7)} }},
	}
}

// spoilOne writes over one of the five lists of an answer and takes it out, so that the others are left.
func spoilOne(x *told, at int) {
	if at == 0 {
		spoilList(x.c.Buf, 555)
		x.c.Buf = nil
		return
	}
	l := []*[]impl.Waiter{&x.c.Sends, &x.c.Recvs, &x.sends, &x.recvs}[at-1]
	spoilList(*l, impl.Waiter{G: 555, Case: 555, Val: 555})
	*l = nil
}

// copyTold is an answer in memory of its own.
func copyTold(x told) told {
	x.c = copyChan(x.c)
	x.sends, x.recvs = slices.Clone(x.sends), slices.Clone(x.recvs)
	return x
}

func TestChanLeavesArguments(t *testing.T) {
	for _, c := range allChans() {
		for _, x := range tells() {
			d, kept := roomyChan(c)
			x.call(d)
			if !kept() || !sameChan(c, d) {
				t.Fatalf("%s changes %+v to %+v", x.what, c, d)
			}
		}
	}
}

func TestChanAnswersAreNewMemory(t *testing.T) {
	for _, c := range rightChans() {
		for _, x := range tells() {
			d, kept := roomyChan(c)
			want := copyTold(x.call(c))
			for at := range 5 {
				got, left := x.call(d), copyTold(want)
				spoilOne(&got, at)
				spoilOne(&left, at)
				if !sameTold(got, left) {
					t.Fatalf("%s of %+v: the list %d shares memory with another one of the answer", x.what, c, at)
				}
				if !kept() {
					t.Fatalf("%s of %+v: the list %d shares memory with the argument", x.what, c, at)
				}
			}
			if !sameTold(x.call(d), want) {
				t.Fatalf("%s of %+v: told otherwise the second time", x.what, c)
			}
		}
	}
}

// turned is an empty list for one that is nil, and the other way round; any other list as it is.
func turned[T any](l []T) []T {
	switch {
	case len(l) != 0:
		return l
	case l == nil:
		return []T{}
	}
	return nil
}

func TestChanOfNilAndEmptyLists(t *testing.T) {
	for _, c := range allChans() {
		other := impl.Chan{Cap: c.Cap, Buf: turned(c.Buf), Sends: turned(c.Sends), Recvs: turned(c.Recvs), Closed: c.Closed}
		for _, x := range tells() {
			if got, want := x.call(other), x.call(c); !sameTold(got, want) {
				t.Fatalf("%s of %+v: %+v with nil and empty lists exchanged, not %+v", x.what, c, got, want)
			}
		}
	}
}

// Asking of one channel leaves nothing behind for the next call.
func TestChanKeepsNothing(t *testing.T) {
	all := allChans()
	for _, c := range rightChans() {
		for _, x := range tells() {
			want := x.call(c)
			for _, y := range tells() {
				y.call(all[0])
				y.call(all[len(all)/2])
				y.call(impl.Chan{Cap: 4, Buf: []int{1, 2}})
			}
			if got := x.call(c); !sameTold(got, want) {
				t.Fatalf("%s of %+v: %+v behind other calls, not %+v", x.what, c, got, want)
			}
		}
	}
}
