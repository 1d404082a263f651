package tests

import (
	"math"
	"slices"
	"testing"

	"loop.example/g00679/impl"
)

func wantCaseReady(e impl.Eng, x impl.Case) bool {
	if x.Chan == -1 || x.Chan < 0 || x.Chan >= len(e.Chans) {
		return false
	}
	if x.Send {
		return wantCanSend(e.Chans[x.Chan])
	}
	return wantCanRecv(e.Chans[x.Chan])
}

// readyInstr is the instruction to which the goroutine n has come, where all four functions have something to tell.
func readyInstr(p impl.Prog, right bool, e impl.Eng, n int) (impl.Instr, bool) {
	if !wantEngOk(p, right, e) || n < 0 || n >= len(e.Gs) || e.Gs[n].State != 1 {
		return impl.Instr{}, false
	}
	return p.Procs[e.Gs[n].Proc].Code[e.Gs[n].Pc], true
}

func wantReadyCases(p impl.Prog, right bool, e impl.Eng, n int) []int {
	i, there := readyInstr(p, right, e, n)
	if !there || i.Op != 11 {
		return nil
	}
	var l []int
	for k := 0; k < len(p.Sels[i.A].Cases); k++ {
		if wantCaseReady(e, p.Sels[i.A].Cases[k]) {
			l = append(l, k)
		}
	}
	return l
}

// wantBlocks says the document's reasons one by one.
func wantBlocks(p impl.Prog, right bool, e impl.Eng, n int) bool {
	i, there := readyInstr(p, right, e, n)
	switch {
	case !there:
		return false
	case i.Op == 8:
		return i.A == -1 || !wantCanSend(e.Chans[i.A])
	case i.Op == 9:
		return i.A == -1 || !wantCanRecv(e.Chans[i.A])
	case i.Op == 12:
		return e.Mus[i.A].Owner != -1 && e.Mus[i.A].Owner != n
	case i.Op == 11:
		return p.Sels[i.A].Else == -1 && len(wantReadyCases(p, right, e, n)) == 0
	}
	return false
}

func wantChoices(p impl.Prog, right bool, e impl.Eng, n int) int {
	i, there := readyInstr(p, right, e, n)
	if !there {
		return 0
	}
	if i.Op != 11 || len(wantReadyCases(p, right, e, n)) == 0 {
		return 1
	}
	return len(wantReadyCases(p, right, e, n))
}

// tryCases holds the three functions that ask of a goroutine against the chapter's words.
func tryCases(t *testing.T, p impl.Prog, right bool, e impl.Eng, n int) {
	t.Helper()
	if got, want := impl.ReadyCases(p, e, n), wantReadyCases(p, right, e, n); !slices.Equal(got, want) {
		t.Fatalf("ReadyCases of %d in %+v = %v, not %v", n, e, got, want)
	}
	if got, want := impl.Blocks(p, e, n), wantBlocks(p, right, e, n); got != want {
		t.Fatalf("Blocks of %d in %+v is %v", n, e, got)
	}
	if got, want := impl.Choices(p, e, n), wantChoices(p, right, e, n); got != want {
		t.Fatalf("Choices of %d in %+v = %d, not %d", n, e, got, want)
	}
}

// gorNumbers are below, at and beyond those of an engine with count goroutines.
func gorNumbers(count int) []int {
	l := []int{math.MinInt, math.MinInt + 1, -1 << 32, -2, -1, count, count + 1, 1 << 32, 1<<32 + 1, math.MaxInt - 1, math.MaxInt}
	return append(l, upTo(count)...)
}

func noneToDo(p impl.Prog, e impl.Eng, n int) bool {
	return len(impl.ReadyCases(p, e, n)) == 0 && !impl.Blocks(p, e, n) && impl.Choices(p, e, n) == 0
}

// comer is ready at a place of the procedure 1 of waitProg.
func comer(pc int) impl.Gor {
	g := sleeper(pc)
	g.State = impl.GsReady
	return g
}

// chanKind is a kind of channel in waitProg: who waits there, and how it stands.
type chanKind struct {
	what       string
	ch         int
	do         func(e *impl.Eng)
	send, recv bool
}

// chanKinds are done to an engine of two goroutines: the first one is ready, the second one waits there, if anybody does.
func chanKinds() []chanKind {
	waits := func(e *impl.Eng, pc int) { e.Gs[1] = sleeper(pc) }
	return []chanKind{
		{"no room", 0, func(e *impl.Eng) {}, false, false},
		{"no room, one waits to send", 0, func(e *impl.Eng) {
			waits(e, atSend0)
			e.Chans[0].Sends = []impl.Waiter{{G: 1, Case: -1, Val: 10}}
		}, false, true},
		{"no room, one waits to receive", 0, func(e *impl.Eng) {
			waits(e, atRecv0)
			e.Chans[0].Recvs = []impl.Waiter{{G: 1, Case: -1}}
		}, true, false},
		{"no room, one waits to send by a select", 0, func(e *impl.Eng) {
			waits(e, atSelect1)
			e.Chans[0].Sends = []impl.Waiter{{G: 1, Case: 0, Val: 50}}
			e.Chans[1].Recvs = []impl.Waiter{{G: 1, Case: 1}}
			e.Chans[2].Buf, e.Chans[2].Sends = []int{1}, []impl.Waiter{{G: 1, Case: 2, Val: 60}}
		}, false, true},
		{"no room, one waits to receive by a select", 0, func(e *impl.Eng) {
			waits(e, atSelect0)
			e.Chans[0].Recvs = []impl.Waiter{{G: 1, Case: 0}}
			e.Chans[1].Buf, e.Chans[1].Sends = []int{1, 2}, []impl.Waiter{{G: 1, Case: 1, Val: 40}}
		}, true, false},
		{"no room, closed", 0, func(e *impl.Eng) { e.Chans[0].Closed = true }, true, true},
		{"empty", 1, func(e *impl.Eng) {}, true, false},
		{"half full", 1, func(e *impl.Eng) { e.Chans[1].Buf = []int{5} }, true, true},
		{"full", 1, func(e *impl.Eng) { e.Chans[1].Buf = []int{5, 6} }, false, true},
		{"full of nothing but 0", 1, func(e *impl.Eng) { e.Chans[1].Buf = []int{0, 0} }, false, true},
		{"full, one waits to send", 1, func(e *impl.Eng) {
			waits(e, atSend1)
			e.Chans[1].Buf, e.Chans[1].Sends = []int{5, 6}, []impl.Waiter{{G: 1, Case: -1, Val: 40}}
		}, false, true},
		{"full, one waits to send by a select", 1, func(e *impl.Eng) {
			waits(e, atSelect0)
			e.Chans[0].Recvs = []impl.Waiter{{G: 1, Case: 0}}
			e.Chans[1].Buf, e.Chans[1].Sends = []int{1, 2}, []impl.Waiter{{G: 1, Case: 1, Val: 40}}
		}, false, true},
		{"empty, one waits to receive", 1, func(e *impl.Eng) {
			waits(e, atRecv1)
			e.Chans[1].Recvs = []impl.Waiter{{G: 1, Case: -1}}
		}, true, false},
		{"empty, one waits to receive by a select", 1, func(e *impl.Eng) {
			waits(e, atSelect1)
			e.Chans[0].Sends = []impl.Waiter{{G: 1, Case: 0, Val: 50}}
			e.Chans[1].Recvs = []impl.Waiter{{G: 1, Case: 1}}
			e.Chans[2].Buf, e.Chans[2].Sends = []int{1}, []impl.Waiter{{G: 1, Case: 2, Val: 60}}
		}, true, false},
		{"closed without values", 1, func(e *impl.Eng) { e.Chans[1].Closed = true }, true, true},
		{"closed with a value", 1, func(e *impl.Eng) { e.Chans[1].Buf, e.Chans[1].Closed = []int{5}, true }, true, true},
		{"closed and full", 1, func(e *impl.Eng) { e.Chans[1].Buf, e.Chans[1].Closed = []int{5, 6}, true }, true, true},
		{"the last one, empty", 2, func(e *impl.Eng) {}, true, false},
		{"the last one, full", 2, func(e *impl.Eng) { e.Chans[2].Buf = []int{5} }, false, true},
		{"the last one, closed", 2, func(e *impl.Eng) { e.Chans[2].Closed = true }, true, true},
	}
}

// engOf is the engine of a kind, with its first goroutine ready at this place.
func (k chanKind) engOf(pc int) impl.Eng {
	e := plainEng(waitProg())
	e.Gs = []impl.Gor{comer(pc), impl.Over(comer(atHalt), 0)}
	k.do(&e)
	return e
}

func TestChanKindsAreRight(t *testing.T) {
	for _, k := range chanKinds() {
		if e := k.engOf(atHalt); !wantEngOk(waitProg(), true, e) || !impl.EngOk(waitProg(), e) {
			t.Errorf("%s: %+v isn't right", k.what, e)
		}
	}
}

// Nothing of a case but its side and its channel counts.
func TestCaseReadyAtEachKind(t *testing.T) {
	for _, k := range chanKinds() {
		e := k.engOf(atHalt)
		for _, x := range []impl.Case{{}, {Reg: 5, Ok: 4, To: 3}, {Reg: -1, Ok: 6, To: math.MinInt}, {Reg: math.MaxInt, To: 40}} {
			x.Chan = k.ch
			if got := impl.CaseReady(e, x); got != k.recv {
				t.Errorf("%s: to receive by %+v is %v", k.what, x, got)
			}
			x.Send = true
			if got := impl.CaseReady(e, x); got != k.send {
				t.Errorf("%s: to send by %+v is %v", k.what, x, got)
			}
		}
	}
}

// A number that there is none of is never ready, though all that there are would be.
func TestCaseReadyOfNumbers(t *testing.T) {
	open := impl.Chan{Cap: 1, Closed: true}
	for size := range 7 {
		e := impl.Eng{Chans: slices.Repeat([]impl.Chan{open}, size)}
		for _, ch := range []int{math.MinInt, -1 << 32, -1<<32 + 1, -2, -1, 0, 1, 2, 3, 4, 5, 6, 7, 1 << 32, 1<<32 + 1, math.MaxInt} {
			for _, send := range []bool{false, true} {
				want := ch >= 0 && ch < size
				if got := impl.CaseReady(e, impl.Case{Send: send, Chan: ch}); got != want {
					t.Errorf("of %d channels the one with the number %d, to send %v: %v", size, ch, send, got)
				}
			}
		}
	}
}

// Each channel is told from the others, wherever it stands among them.
func TestCaseReadyTellsChannelsApart(t *testing.T) {
	for at := range 6 {
		for _, x := range []struct {
			c, other   impl.Chan
			send, recv bool
		}{
			{impl.Chan{Cap: 1}, impl.Chan{Cap: 1, Buf: []int{3}}, true, false},
			{impl.Chan{Cap: 1, Buf: []int{3}}, impl.Chan{Cap: 1}, false, true},
			{impl.Chan{}, impl.Chan{Closed: true}, false, false},
			{impl.Chan{Closed: true}, impl.Chan{}, true, true},
		} {
			e := impl.Eng{Chans: slices.Repeat([]impl.Chan{x.other}, 6)}
			e.Chans[at] = x.c
			if impl.CaseReady(e, impl.Case{Send: true, Chan: at}) != x.send || impl.CaseReady(e, impl.Case{Chan: at}) != x.recv {
				t.Errorf("%+v at %d among %+v: not told", x.c, at, x.other)
			}
		}
	}
}

// A channel that isn't right is never ready; of others, and of all else in the engine, nothing is asked.
func TestCaseReadyOfAllChannels(t *testing.T) {
	wrong := impl.Eng{Gs: []impl.Gor{{State: 9, Pc: -1}, sleeper(atRecv0)}, Mus: []impl.Mutex{{Owner: math.MinInt, Wait: []int{-1}}}}
	counts := map[[2]bool]int{}
	for at, c := range allChans() {
		e := impl.Eng{Chans: []impl.Chan{{Cap: -1}, c, {Cap: 5}}}
		if at%2 == 0 {
			e.Gs, e.Mus = wrong.Gs, wrong.Mus
		}
		send, recv := impl.CaseReady(e, impl.Case{Send: true, Chan: 1, Reg: 2, To: 3}), impl.CaseReady(e, impl.Case{Chan: 1, Reg: 2, Ok: 1})
		if send != wantCanSend(c) || recv != wantCanRecv(c) {
			t.Fatalf("%+v: to send %v, to receive %v", c, send, recv)
		}
		counts[[2]bool{send, recv}]++
	}
	if len(counts) != 4 {
		t.Errorf("not all of the four were met: %v", counts)
	}
}

func TestCaseReadyOneByOneOfWrongChannels(t *testing.T) {
	for _, c := range []impl.Chan{
		{Cap: -1, Closed: true}, {Cap: 5}, {Cap: math.MaxInt}, {Cap: 1, Buf: []int{1, 2}}, {Cap: 2, Buf: []int{1000}}, {Cap: 2, Buf: []int{-1}},
		{Cap: 1, Sends: []impl.Waiter{{G: 1, Case: -1}}}, {Cap: 1, Buf: []int{4}, Recvs: []impl.Waiter{{G: 1, Case: -1}}},
		{Cap: 0, Sends: []impl.Waiter{{G: 1, Case: -1}}, Recvs: []impl.Waiter{{G: 2, Case: -1}}},
		{Cap: 0, Recvs: []impl.Waiter{{G: 1, Case: -1}}, Closed: true}, {Cap: 0, Sends: []impl.Waiter{{G: 1, Case: -1}}, Closed: true},
		{Cap: 0, Recvs: []impl.Waiter{{G: -1, Case: -1}}}, {Cap: 0, Recvs: []impl.Waiter{{G: 1, Case: -2}}}, {Cap: 0, Recvs: []impl.Waiter{{G: 1, Case: -1, Val: 7}}},
		{Cap: 0, Sends: []impl.Waiter{{G: -1, Case: -1}}}, {Cap: 0, Sends: []impl.Waiter{{G: 1, Case: -1, Val: 1000}}},
	} {
		e := impl.Eng{Chans: []impl.Chan{c}}
		if impl.CaseReady(e, impl.Case{Send: true}) || impl.CaseReady(e, impl.Case{}) {
			t.Errorf("%+v isn't right, but ready", c)
		}
	}
}

// fourProg has a select of four cases, at the place 0 with an Else or without, and ways to wait at its channels behind it.
func fourProg(other int) impl.Prog {
	return impl.Prog{
		Caps: []int{0, 1, 2, 4},
		Sels: []impl.Select{{Cases: []impl.Case{{Send: true, Chan: 0, Reg: 1, To: 1}, {Chan: 1, Reg: 2, Ok: 3, To: 2}, {Send: true, Chan: 2, Reg: 4}, {Chan: 3, Reg: 5, Ok: 5, To: 3}}, Else: other}},
		Procs: []impl.Proc{{Code: []impl.Instr{
			{Op: impl.OpSelect}, {Op: impl.OpRecv, A: 0}, {Op: impl.OpHalt}, {Op: impl.OpHalt},
		}}},
	}
}

// fourEng has just the cases of these bits ready for its goroutine n; another one waits at the channel 0, or waits for ever.
func fourEng(bits int, n int) impl.Eng {
	e := plainEng(fourProg(-1))
	e.Gs = []impl.Gor{impl.GorNew(0, 3), impl.GorNew(0, 4)}
	other := &e.Gs[1-n]
	other.Pc = 2
	if bits&1 != 0 {
		other.Pc, other.State = 1, impl.GsWait
		e.Chans[0].Recvs = []impl.Waiter{{G: 1 - n, Case: -1}}
	}
	if bits&2 != 0 {
		e.Chans[1].Buf = []int{0}
	}
	if bits&4 == 0 {
		e.Chans[2].Buf = []int{1, 2}
	}
	if bits&8 != 0 {
		e.Chans[3].Closed = true
	}
	return e
}

// With each number of ready cases, each of them and each set of them.
func TestReadyCasesOfEachSet(t *testing.T) {
	for _, other := range []int{-1, 0, 3} {
		p := fourProg(other)
		for bits := range 16 {
			var want []int
			for k := range 4 {
				if bits>>k&1 != 0 {
					want = append(want, k)
				}
			}
			for n := range 2 {
				e := fourEng(bits, n)
				if !impl.EngOk(p, e) {
					t.Fatalf("%+v isn't right", e)
				}
				if got := impl.ReadyCases(p, e, n); !slices.Equal(got, want) {
					t.Errorf("with the bits %d: ReadyCases is %v", bits, got)
				}
				if got := impl.Blocks(p, e, n); got != (bits == 0 && other == -1) {
					t.Errorf("with the bits %d and an Else of %d: Blocks is %v", bits, other, got)
				}
				if got := impl.Choices(p, e, n); got != max(1, len(want)) {
					t.Errorf("with the bits %d: Choices is %d", bits, got)
				}
			}
		}
	}
}

// Each order of the cases: what is told are their places in the select, and not their channels.
func TestReadyCasesOfEachOrder(t *testing.T) {
	p := fourProg(-1)
	for at := range 256 {
		order := []int{at & 3, at >> 2 & 3, at >> 4 & 3, at >> 6}
		if !sameInAnyOrder(order, upTo(4)) {
			continue
		}
		d := copyProg(p)
		for k, from := range order {
			d.Sels[0].Cases[k] = p.Sels[0].Cases[from]
		}
		for bits := range 16 {
			var want []int
			for k, from := range order {
				if bits>>from&1 != 0 {
					want = append(want, k)
				}
			}
			if got := impl.ReadyCases(d, fourEng(bits, 0), 0); !slices.Equal(got, want) {
				t.Errorf("in the order %v with the bits %d: %v", order, bits, got)
			}
		}
	}
}

// Of nil channels no case is ready, wherever they stand in the select.
func TestReadyCasesOfNil(t *testing.T) {
	for nils := range 16 {
		p := fourProg(-1)
		var want []int
		for k := range 4 {
			if nils>>k&1 != 0 {
				p.Sels[0].Cases[k].Chan = -1
			} else {
				want = append(want, k)
			}
		}
		e := fourEng(15, 0)
		if got := impl.ReadyCases(p, e, 0); !slices.Equal(got, want) || impl.Choices(p, e, 0) != max(1, len(want)) || impl.Blocks(p, e, 0) != (nils == 15) {
			t.Errorf("with the bits %d nil: ReadyCases is %v", nils, got)
		}
		p.Sels[0].Else = 2
		if got := impl.ReadyCases(p, e, 0); !slices.Equal(got, want) || impl.Choices(p, e, 0) != max(1, len(want)) || impl.Blocks(p, e, 0) {
			t.Errorf("with the bits %d nil and an Else: ReadyCases is %v", nils, got)
		}
	}
}

// A program that names the same channel by two cases of a select isn't right, but a nil one may be named so.
func TestReadyCasesOfTheSameChannelTwice(t *testing.T) {
	e := fourEng(15, 0)
	for a := range 4 {
		for b := range a {
			p := fourProg(-1)
			p.Sels[0].Cases[b].Chan = p.Sels[0].Cases[a].Chan
			if !noneToDo(p, e, 0) {
				t.Errorf("the cases %d and %d have the same channel: there is something to do", b, a)
			}
			p.Sels[0].Cases[a].Chan, p.Sels[0].Cases[b].Chan = -1, -1
			if impl.Choices(p, e, 0) != 2 || len(impl.ReadyCases(p, e, 0)) != 2 {
				t.Errorf("the cases %d and %d are both nil: %d choices", b, a, impl.Choices(p, e, 0))
			}
		}
	}
}

// Two selects with the same channel, one that sends and one that receives there.
func TestReadyCasesOfBothSides(t *testing.T) {
	p := impl.Prog{
		Caps:  []int{2, 1},
		Sels:  []impl.Select{{Cases: []impl.Case{{Chan: -1}, {Send: true, Chan: 0}}, Else: -1}, {Cases: []impl.Case{{Chan: 0}, {Send: true, Chan: 1}}, Else: -1}},
		Procs: []impl.Proc{{Code: []impl.Instr{{Op: impl.OpSelect, A: 0}, {Op: impl.OpSelect, A: 1}, {Op: impl.OpHalt}}}},
	}
	for size, want := range [][2][]int{{{1}, nil}, {{1}, {0}}, {nil, {0}}} {
		for at := range 2 {
			e := impl.EngNew(p)
			e.Chans[0].Buf, e.Chans[1].Buf = make([]int, size), []int{9}
			e.Gs[0].Pc = at
			if got := impl.ReadyCases(p, e, 0); !slices.Equal(got, want[at]) || impl.Blocks(p, e, 0) != (len(want[at]) == 0) {
				t.Errorf("with %d values the select %d has %v ready", size, at, got)
			}
		}
	}
}

// The select at which the goroutine stands counts, and not another one of the program.
func TestReadyCasesOfTheRightSelect(t *testing.T) {
	for _, x := range []struct {
		pc      int
		want    []int
		blocks  bool
		choices int
	}{
		{atSelect0, []int{1}, false, 1}, {atSelect1, []int{2}, false, 1}, {atSelect2, []int{2}, false, 1},
		{atSelectNil, nil, true, 1}, {atSelectElse, []int{1}, false, 1}, {atElse, nil, false, 1},
	} {
		e := plainEng(waitProg())
		e.Gs = []impl.Gor{comer(atHalt), comer(x.pc), comer(atSelectNil)}
		if got := impl.ReadyCases(waitProg(), e, 1); !slices.Equal(got, x.want) {
			t.Errorf("at the place %d: ReadyCases is %v", x.pc, got)
		}
		if impl.Blocks(waitProg(), e, 1) != x.blocks || impl.Choices(waitProg(), e, 1) != x.choices {
			t.Errorf("at the place %d: Blocks is %v, Choices %d", x.pc, impl.Blocks(waitProg(), e, 1), impl.Choices(waitProg(), e, 1))
		}
	}
}

func TestBlocksAtEachKindOfChannel(t *testing.T) {
	sends, recvs := []int{atSend0, atSend1, atSend2}, []int{atRecv0, atRecv1, atRecv2}
	for _, k := range chanKinds() {
		e := k.engOf(sends[k.ch])
		if got := impl.Blocks(waitProg(), e, 0); got == k.send {
			t.Errorf("%s: to send it would wait: %v", k.what, got)
		}
		e = k.engOf(recvs[k.ch])
		if got := impl.Blocks(waitProg(), e, 0); got == k.recv {
			t.Errorf("%s: to receive it would wait: %v", k.what, got)
		}
		for _, pc := range []int{atSendNil, atRecvNil, atSelectNil} {
			if e := k.engOf(pc); !impl.Blocks(waitProg(), e, 0) {
				t.Errorf("%s: at the place %d, of a nil channel, it wouldn't wait", k.what, pc)
			}
		}
		for pc := range atHalt + 1 {
			e := k.engOf(pc)
			for _, n := range []int{0, 1} {
				tryCases(t, waitProg(), true, e, n)
			}
		}
	}
}

// mutexKind is a kind of mutex, and whether the goroutine 1 would wait for it.
type mutexKind struct {
	what   string
	do     func(e *impl.Eng)
	blocks bool
}

func mutexKinds() []mutexKind {
	return []mutexKind{
		{"free", func(e *impl.Eng) {}, false},
		{"its own", func(e *impl.Eng) { e.Mus[0].Owner = 1 }, false},
		{"its own, and another one waits", func(e *impl.Eng) {
			e.Gs[2] = sleeper(atLock0)
			e.Mus[0] = impl.Mutex{Owner: 1, Wait: []int{2}}
		}, false},
		{"of one that is ready", func(e *impl.Eng) { e.Mus[0].Owner = 0 }, true},
		{"of one behind it", func(e *impl.Eng) { e.Mus[0].Owner = 2 }, true},
		{"of one that waits elsewhere", func(e *impl.Eng) {
			e.Gs[2] = sleeper(atRecvNil)
			e.Mus[0].Owner = 2
		}, true},
		{"of one that is done", func(e *impl.Eng) {
			e.Gs[2] = impl.Over(comer(atHalt), 0)
			e.Mus[0].Owner = 2
		}, true},
		{"of one that died", func(e *impl.Eng) {
			e.Gs[0] = impl.Over(comer(atHalt), impl.WyNil)
			e.Mus[0].Owner = 0
		}, true},
		{"of another one, and one waits already", func(e *impl.Eng) {
			e.Gs[2] = sleeper(atLock0)
			e.Mus[0] = impl.Mutex{Owner: 0, Wait: []int{2}}
		}, true},
		{"free, but the other one isn't", func(e *impl.Eng) { e.Mus[1].Owner = 0 }, false},
		{"of another one, and its own is the other one", func(e *impl.Eng) { e.Mus[0].Owner, e.Mus[1].Owner = 0, 1 }, true},
	}
}

func TestBlocksAtEachKindOfMutex(t *testing.T) {
	for _, k := range mutexKinds() {
		e := plainEng(waitProg())
		e.Gs = []impl.Gor{comer(atHalt), comer(atLock0), comer(atHalt)}
		k.do(&e)
		if !impl.EngOk(waitProg(), e) {
			t.Fatalf("%s: %+v isn't right", k.what, e)
		}
		if got := impl.Blocks(waitProg(), e, 1); got != k.blocks {
			t.Errorf("%s: Blocks is %v", k.what, got)
		}
		if impl.Choices(waitProg(), e, 1) != 1 || len(impl.ReadyCases(waitProg(), e, 1)) != 0 {
			t.Errorf("%s: %d choices, the cases %v", k.what, impl.Choices(waitProg(), e, 1), impl.ReadyCases(waitProg(), e, 1))
		}
		// At an unlock nobody waits, whoever has it.
		e.Gs[1].Proc, e.Gs[1].Pc = 0, 10
		if impl.Blocks(waitProg(), e, 1) || impl.Choices(waitProg(), e, 1) != 1 {
			t.Errorf("%s: it would wait to unlock it", k.what)
		}
	}
}

// The last mutex is told from the first one.
func TestBlocksTellsMutexesApart(t *testing.T) {
	for owner := -1; owner < 2; owner++ {
		for other := -1; other < 2; other++ {
			e := plainEng(waitProg())
			e.Gs = []impl.Gor{comer(atLock1), comer(atLock0)}
			e.Mus[1].Owner, e.Mus[0].Owner = owner, other
			if got := impl.Blocks(waitProg(), e, 0); got != (owner == 1) {
				t.Errorf("the mutex 1 has %d, the mutex 0 %d: the goroutine 0 would wait: %v", owner, other, got)
			}
			if got := impl.Blocks(waitProg(), e, 1); got != (other == 0) {
				t.Errorf("the mutex 1 has %d, the mutex 0 %d: the goroutine 1 would wait: %v", owner, other, got)
			}
		}
	}
}

// fifteenEng has its goroutine n at a place of the procedure 0 of waitProg, in this state, and right if it may be so.
func fifteenEng(pc int, state int, n int) impl.Eng {
	e := plainEng(waitProg())
	e.Gs = []impl.Gor{comer(atHalt), comer(atHalt)}
	e.Gs[n] = inState(atPlace(pc), state)
	e.Chans[1].Buf = []int{5, 6}
	e.Mus[0].Owner = 1 - n
	for _, x := range wantPlaces(waitProg(), true, e.Gs[n], n) {
		stand(func(int) int { return 0 }, &e, x)
	}
	return e
}

// Where no channel of them is ready and the mutex is another one's, a send, a receive, a select without an Else and a lock would wait.
func TestCasesOfTheFifteen(t *testing.T) {
	p := waitProg()
	for pc, i := range p.Procs[0].Code {
		for state := range 6 {
			for n := range 2 {
				e := fifteenEng(pc, state, n)
				ready := state == impl.GsReady
				waits := i.Op == impl.OpSend || i.Op == impl.OpRecv || i.Op == impl.OpSelect || i.Op == impl.OpLock
				if got := impl.EngOk(p, e); got != (ready || state == impl.GsWait && waits || state == impl.GsDone || state == impl.GsDead) {
					t.Fatalf("%s in the state %d: EngOk is %v", impl.OpWord(i.Op), state, got)
				}
				if got := impl.Blocks(p, e, n); got != (ready && waits) {
					t.Errorf("%s in the state %d: Blocks is %v", impl.OpWord(i.Op), state, got)
				}
				if got := impl.Choices(p, e, n); got != 0 != ready || got > 1 {
					t.Errorf("%s in the state %d: Choices is %d", impl.OpWord(i.Op), state, got)
				}
				if got := impl.ReadyCases(p, e, n); len(got) != 0 {
					t.Errorf("%s in the state %d: ReadyCases is %v", impl.OpWord(i.Op), state, got)
				}
				tryCases(t, p, true, e, n)
				tryCases(t, p, true, e, 1-n)
			}
		}
	}
}

// With all channels closed and all mutexes free nobody would wait, but for who is at nil channels alone.
func TestCasesOfTheFifteenAtClosedChannels(t *testing.T) {
	p := waitProg()
	for pc, i := range p.Procs[0].Code {
		for state := 1; state <= 4; state++ {
			e := plainEng(p)
			e.Gs = []impl.Gor{inState(atPlace(pc), state)}
			for k := range e.Chans {
				e.Chans[k].Closed = true
			}
			var want []int
			choices := 0
			if state == impl.GsReady {
				choices = 1
			}
			if state == impl.GsReady && i.Op == impl.OpSelect {
				want, choices = []int{0, 1}, 2
			}
			if got := impl.ReadyCases(p, e, 0); !slices.Equal(got, want) || impl.Choices(p, e, 0) != choices || impl.Blocks(p, e, 0) {
				t.Errorf("%s in the state %d: %v are ready, %d choices, Blocks is %v", impl.OpWord(i.Op), state, got, impl.Choices(p, e, 0), impl.Blocks(p, e, 0))
			}
		}
	}
	for pc := range atHalt + 1 {
		e := plainEng(p)
		e.Gs = []impl.Gor{comer(pc)}
		for k := range e.Chans {
			e.Chans[k].Closed = true
		}
		if got := impl.Blocks(p, e, 0); got != (pc == atSendNil || pc == atRecvNil || pc == atSelectNil) {
			t.Errorf("at the place %d: Blocks is %v", pc, got)
		}
	}
}

func TestCasesOfNumbers(t *testing.T) {
	for size := 1; size <= 10; size++ {
		e := plainEng(waitProg())
		e.Gs = slices.Repeat([]impl.Gor{comer(atSelect0)}, size)
		e.Chans[0].Closed = true
		for _, n := range gorNumbers(size) {
			there := n >= 0 && n < size
			got, choices := impl.ReadyCases(waitProg(), e, n), impl.Choices(waitProg(), e, n)
			if there && (!slices.Equal(got, []int{0, 1}) || choices != 2) || !there && (len(got) != 0 || choices != 0) {
				t.Errorf("of %d goroutines the one with the number %d: %v are ready, %d choices", size, n, got, choices)
			}
		}
		e.Chans[0].Closed, e.Chans[1].Buf = false, []int{1, 2}
		for _, n := range gorNumbers(size) {
			if got := impl.Blocks(waitProg(), e, n); got != (n >= 0 && n < size) {
				t.Errorf("of %d goroutines the one with the number %d would wait: %v", size, n, got)
			}
		}
	}
	e := plainEng(waitProg())
	e.Gs = slices.Repeat([]impl.Gor{comer(atSelect0)}, 11)
	for _, n := range gorNumbers(11) {
		if !noneToDo(waitProg(), e, n) {
			t.Errorf("of eleven goroutines the one with the number %d has something to do", n)
		}
	}
}

// The state of the one that is asked for counts, and not that of another one.
func TestCasesOfStates(t *testing.T) {
	e := sleepyEng()
	e.Gs[0] = comer(atSelect2)
	for _, n := range gorNumbers(10) {
		want := 0
		if n == 0 {
			want = 1
		}
		if got := impl.Choices(waitProg(), e, n); got != want || impl.Blocks(waitProg(), e, n) != (n == 0) || len(impl.ReadyCases(waitProg(), e, n)) != 0 {
			t.Errorf("the goroutine %d has %d choices, Blocks is %v", n, got, impl.Blocks(waitProg(), e, n))
		}
	}
	e.Gs[0] = comer(atRecv2)
	if impl.Blocks(waitProg(), e, 0) || impl.Choices(waitProg(), e, 0) != 1 {
		t.Error("it would wait to receive from a closed channel")
	}
}

// What each of these does makes an engine wrong, in which the goroutine 0 had two ready cases.
func TestCasesOfWrongEngs(t *testing.T) {
	right := func(pc int) impl.Eng {
		e := sleepyEng()
		e.Gs[0] = comer(pc)
		return e
	}
	for _, x := range []struct {
		what string
		do   func(e *impl.Eng)
	}{
		{"one goroutine too many", func(e *impl.Eng) { e.Gs = append(e.Gs, comer(atHalt)) }},
		{"no channels", func(e *impl.Eng) { e.Chans = nil }},
		{"a channel too few", func(e *impl.Eng) { e.Chans = e.Chans[:2] }},
		{"a channel too many", func(e *impl.Eng) { e.Chans = append(e.Chans, impl.Chan{}) }},
		{"another capacity", func(e *impl.Eng) { e.Chans[2].Cap = 2 }},
		{"a channel that isn't right", func(e *impl.Eng) { e.Chans[2].Buf = []int{1000} }},
		{"no mutexes", func(e *impl.Eng) { e.Mus = nil }},
		{"a mutex too many", func(e *impl.Eng) { e.Mus = append(e.Mus, impl.Mutex{Owner: -1}) }},
		{"a mutex that isn't right", func(e *impl.Eng) { e.Mus[0].Wait = []int{6, 6, 5} }},
		{"an owner that is no goroutine", func(e *impl.Eng) { e.Mus[1].Owner = 10 }},
		{"another one without registers", func(e *impl.Eng) { e.Gs[9].Regs = nil }},
		{"another one in the state 0", func(e *impl.Eng) { e.Gs[9].State = 0 }},
		{"another one in the state 5", func(e *impl.Eng) { e.Gs[7].State = 5 }},
		{"another one at no place", func(e *impl.Eng) { e.Gs[9].Pc = 17 }},
		{"another one that waits at a halt", func(e *impl.Eng) { e.Gs[7].Pc = atHalt }},
		{"another one that stands where it doesn't wait", func(e *impl.Eng) { e.Mus[1].Wait = []int{7} }},
		{"another one that waits where it doesn't stand", func(e *impl.Eng) { e.Mus[0].Wait = []int{6} }},
		{"another one that stands twice", func(e *impl.Eng) { e.Chans[0].Recvs = append(e.Chans[0].Recvs, e.Chans[0].Recvs[0]) }},
		{"it has a register too few", func(e *impl.Eng) { e.Gs[0].Regs = e.Gs[0].Regs[:5] }},
		{"it has a register of 1000", func(e *impl.Eng) { e.Gs[0].Regs[5] = 1000 }},
		{"it has an end in its trace", func(e *impl.Eng) { e.Gs[0].Trace = []impl.Item{{Kind: impl.ItDone}} }},
		{"it is in no procedure", func(e *impl.Eng) { e.Gs[0].Proc = 2 }},
		{"it is in a procedure below 0", func(e *impl.Eng) { e.Gs[0].Proc = -1 }},
		{"it is at no place", func(e *impl.Eng) { e.Gs[0].Pc = 17 }},
		{"it is at a place below 0", func(e *impl.Eng) { e.Gs[0].Pc = -1 }},
		{"it stands where it would wait", func(e *impl.Eng) { e.Chans[0].Recvs = append(e.Chans[0].Recvs, impl.Waiter{G: 0, Case: 0}) }},
	} {
		for _, pc := range []int{atSelect0, atSelectElse, atSelectNil, atRecv0, atSendNil, atLock0, atHalt, atElse} {
			if e := right(pc); impl.Choices(waitProg(), e, 0) == 0 {
				t.Fatalf("at the place %d: nothing to do in %+v", pc, e)
			}
			e := right(pc)
			x.do(&e)
			for _, n := range gorNumbers(len(e.Gs)) {
				if !noneToDo(waitProg(), e, n) {
					t.Errorf("%s: at the place %d the goroutine %d has something to do", x.what, pc, n)
				}
			}
		}
	}
	for _, n := range gorNumbers(0) {
		if !noneToDo(waitProg(), impl.Eng{}, n) {
			t.Errorf("in nothing of an engine the goroutine %d has something to do", n)
		}
	}
}

func TestCasesOfWrongProgs(t *testing.T) {
	try := func(what string, p impl.Prog) {
		for proc := range 2 {
			for pc := range 11 {
				e := plainEng(p)
				e.Gs = []impl.Gor{atPlace(pc), atPlace(pc)}
				e.Gs[0].Proc, e.Gs[1].Proc = proc, proc
				for _, n := range gorNumbers(2) {
					if !noneToDo(p, e, n) {
						t.Errorf("%s: at the place %d of the procedure %d there is something to do", what, pc, proc)
					}
				}
			}
		}
	}
	for _, x := range wrongChanges() {
		p := fullProg()
		x.do(&p)
		try(x.what, p)
	}
	try("nothing of a program", impl.Prog{})
	none := waitProg()
	none.Sels[5].Else = -1
	try("a select without a case and without an Else", none)
	if e := plainEng(fullProg()); impl.Choices(fullProg(), e, 0) != 1 || impl.Choices(waitProg(), e, 0) != 0 {
		t.Error("the engine of another program is right")
	}
}

// Engines of any kind, right ones and such as were spoilt, and all their goroutines.
func TestCasesOfAnyEngs(t *testing.T) {
	roll := dice()
	blocked, most, wrong := 0, 0, 0
	for round := range 6000 {
		p := waitProg()
		switch round % 4 {
		case 0:
			p = anyProg(roll)
		case 1:
			p = fourProg(roll(5) - 1)
		}
		e := anyEng(roll, p)
		if round%3 == 0 {
			spoils := []func(func(int) int, *impl.Eng){spoilChanOf, spoilMutexOf, spoilGorOf}
			spoils[roll(3)](roll, &e)
		}
		if !wantEngOk(p, true, e) {
			wrong++
		}
		for n := -1; n <= len(e.Gs); n++ {
			tryCases(t, p, true, e, n)
			most = max(most, impl.Choices(p, e, n))
			if impl.Blocks(p, e, n) {
				blocked++
			}
		}
		for ch := -2; ch < 8; ch++ {
			for _, send := range []bool{false, true} {
				x := impl.Case{Send: send, Chan: ch, Reg: roll(8) - 1, Ok: roll(8) - 1, To: roll(50) - 5}
				if got := impl.CaseReady(e, x); got != wantCaseReady(e, x) {
					t.Fatalf("CaseReady of %+v in %+v is %v", x, e, got)
				}
			}
		}
	}
	if blocked < 1000 || most != 4 || wrong < 200 {
		t.Errorf("%d would wait, there were %d choices at most, and %d engines were wrong", blocked, most, wrong)
	}
}

// Who blocks has one way to go on, and no case that is ready; who has several ways is at a select with as many.
func TestCasesAgree(t *testing.T) {
	roll := dice()
	for range 2000 {
		p := waitProg()
		e := anyEng(roll, p)
		for n := range e.Gs {
			l, blocks, choices := impl.ReadyCases(p, e, n), impl.Blocks(p, e, n), impl.Choices(p, e, n)
			if blocks && (choices != 1 || len(l) != 0) || len(l) > 0 && choices != len(l) || choices > 1 && len(l) != choices {
				t.Fatalf("the goroutine %d in %+v: %v are ready, Blocks is %v, %d choices", n, e, l, blocks, choices)
			}
			if (choices == 0) != (e.Gs[n].State != impl.GsReady) {
				t.Fatalf("the goroutine %d in %+v has %d choices", n, e, choices)
			}
			for _, k := range l {
				i := p.Procs[e.Gs[n].Proc].Code[e.Gs[n].Pc]
				if !impl.CaseReady(e, p.Sels[i.A].Cases[k]) {
					t.Fatalf("the case %d is ready, but CaseReady is false", k)
				}
			}
		}
	}
}

// casesAnswer is what one call of the layer answers; what isn't answered is left zero.
type casesAnswer struct {
	l  []int
	n  int
	ok bool
}

func sameCases(a, b casesAnswer) bool {
	return slices.Equal(a.l, b.l) && a.n == b.n && a.ok == b.ok
}

type casesCall struct {
	what string
	call func(p impl.Prog, e impl.Eng) casesAnswer
}

func casesCalls() []casesCall {
	var l []casesCall
	for _, x := range []impl.Case{{Send: true}, {}, {Send: true, Chan: 1, Reg: 3}, {Chan: 2, Ok: 5}, {Chan: -1}} {
		l = append(l, casesCall{"CaseReady", func(p impl.Prog, e impl.Eng) casesAnswer { return casesAnswer{ok: impl.CaseReady(e, x)} }})
	}
	for _, n := range []int{-1, 0, 1, 5} {
		l = append(l,
			casesCall{"ReadyCases", func(p impl.Prog, e impl.Eng) casesAnswer { return casesAnswer{l: impl.ReadyCases(p, e, n)} }},
			casesCall{"Blocks", func(p impl.Prog, e impl.Eng) casesAnswer { return casesAnswer{ok: impl.Blocks(p, e, n)} }},
			casesCall{"Choices", func(p impl.Prog, e impl.Eng) casesAnswer { return casesAnswer{n: impl.Choices(p, e, n)} }},
		)
	}
	return l
}

// casesEngs are those of the engine's layer, and some in which there is much to choose from.
func casesEngs() []impl.Eng {
	l := someEngs()
	for _, k := range chanKinds() {
		l = append(l, k.engOf(atSelect0), k.engOf(atSelect1), k.engOf(atSelectElse), k.engOf(atRecv1))
	}
	e := plainEng(waitProg())
	e.Gs = slices.Repeat([]impl.Gor{comer(atSelect1)}, 6)
	e.Chans[0].Closed, e.Chans[1].Closed = true, true
	return append(l, e)
}

func TestCasesLeaveArguments(t *testing.T) {
	for _, e := range casesEngs() {
		for _, x := range casesCalls() {
			for _, p := range []impl.Prog{waitProg(), fullProg(), {}} {
				kept := copyProg(p)
				d, same := roomyEng(e)
				x.call(p, d)
				if !same() || !sameProg(p, kept) {
					t.Fatalf("%s changes %+v or %+v", x.what, e, p)
				}
			}
		}
	}
}

func TestCasesAnswersAreNewMemory(t *testing.T) {
	for _, e := range casesEngs() {
		for _, x := range casesCalls() {
			p := waitProg()
			want := x.call(waitProg(), e)
			want.l = slices.Clone(want.l)
			d, same := roomyEng(e)
			first, second := x.call(p, d), x.call(p, d)
			spoilList(first.l, 555)
			if !same() || !sameProg(p, waitProg()) {
				t.Fatalf("%s of %+v: the answer shares memory with an argument", x.what, e)
			}
			if !sameCases(second, want) {
				t.Fatalf("%s of %+v: two answers share memory", x.what, e)
			}
			spoilEng(d)
			spoilProg(p)
			if !sameCases(second, want) {
				t.Fatalf("%s of %+v: the answer changes with an argument", x.what, e)
			}
		}
	}
}

func TestCasesOfNilAndEmptyLists(t *testing.T) {
	bare := impl.Prog{Procs: []impl.Proc{{Code: []impl.Instr{{Op: impl.OpSend, A: -1}, {Op: impl.OpHalt}}}}}
	other := impl.Prog{Sels: []impl.Select{{Else: 1}}, Procs: []impl.Proc{{Code: []impl.Instr{{Op: impl.OpSelect}, {Op: impl.OpHalt}}}}}
	for _, p := range []impl.Prog{waitProg(), bare, other, {Procs: []impl.Proc{{}}}, {}} {
		for _, e := range append(casesEngs(), plainEng(bare), plainEng(other)) {
			for _, x := range casesCalls() {
				want := x.call(p, e)
				if got := x.call(turnedProg(p), turnedEng(e)); !sameCases(got, want) {
					t.Fatalf("%s of %+v: %+v with nil and empty lists exchanged, not %+v", x.what, e, got, want)
				}
			}
		}
	}
	for _, p := range []impl.Prog{bare, other, turnedProg(bare), turnedProg(other)} {
		for _, e := range []impl.Eng{plainEng(p), turnedEng(plainEng(p))} {
			if impl.Choices(p, e, 0) != 1 || impl.Blocks(p, e, 0) != (len(p.Sels) == 0) || len(impl.ReadyCases(p, e, 0)) != 0 {
				t.Errorf("without channels: %d choices, Blocks is %v", impl.Choices(p, e, 0), impl.Blocks(p, e, 0))
			}
		}
	}
}

// Asking of one engine leaves nothing behind for the next call, and the same is answered each time.
func TestCasesKeepNothing(t *testing.T) {
	all := casesEngs()
	for at, e := range all {
		for _, x := range casesCalls() {
			want := x.call(waitProg(), e)
			want.l = slices.Clone(want.l)
			for _, y := range casesCalls() {
				y.call(fullProg(), all[(at+1)%len(all)])
				y.call(waitProg(), sleepyEng())
			}
			for range 3 {
				if got := x.call(waitProg(), e); !sameCases(got, want) {
					t.Fatalf("%s of %+v: %+v behind other calls, not %+v", x.what, e, got, want)
				}
			}
		}
	}
}
