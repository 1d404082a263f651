package tests

import (
	"math"
	"slices"
	"testing"

	"loop.example/g00679/impl"
)

// waitProg has in its procedure 0 each of the fifteen instructions, and in its procedure 1 all ways to wait.
func waitProg() impl.Prog {
	return impl.Prog{
		Caps: []int{0, 2, 1},
		Mus:  2,
		Sels: []impl.Select{
			{Cases: []impl.Case{{Chan: 0, Reg: 1, Ok: 2, To: 1}, {Send: true, Chan: 1, Reg: 3, To: 2}, {Chan: -1, Reg: 5, Ok: 4}, {Send: true, Chan: -1, Reg: 2}}, Else: -1},
			{Cases: []impl.Case{{Send: true, Chan: 0, Reg: 4}, {Chan: 1}, {Send: true, Chan: 2, Reg: 5}}, Else: -1},
			{Cases: []impl.Case{{Chan: -1, Reg: 1}, {Chan: 0, Reg: 2, Ok: 5}, {Send: true, Chan: 1, Reg: 5}}, Else: -1},
			{Cases: []impl.Case{{Chan: -1}, {Send: true, Chan: -1}}, Else: -1},
			{Cases: []impl.Case{{Chan: 0}, {Send: true, Chan: 2, Reg: 1}}, Else: 1},
			{Else: 0},
		},
		Procs: []impl.Proc{
			{Code: []impl.Instr{
				{Op: impl.OpSet, A: 0, B: 5},
				{Op: impl.OpAdd, A: 1, B: 0, C: 0},
				{Op: impl.OpSub, A: 1, B: 0, C: 2},
				{Op: impl.OpLess, A: 1, B: 2, C: 0},
				{Op: impl.OpIf, A: 1, B: 0},
				{Op: impl.OpSend, A: 0, B: 1},
				{Op: impl.OpRecv, A: 0, B: 1, C: 2},
				{Op: impl.OpClose, A: 0},
				{Op: impl.OpSelect, A: 0},
				{Op: impl.OpLock, A: 0},
				{Op: impl.OpUnlock, A: 0},
				{Op: impl.OpSpawn, A: 1, B: 0},
				{Op: impl.OpPrint, A: 3},
				{Op: impl.OpJump, A: 0},
				{Op: impl.OpHalt},
			}},
			{Code: []impl.Instr{
				{Op: impl.OpSend, A: 0, B: 0},
				{Op: impl.OpSend, A: 1, B: 3},
				{Op: impl.OpSend, A: 2, B: 5},
				{Op: impl.OpSend, A: -1, B: 2},
				{Op: impl.OpRecv, A: 0, B: 1, C: 2},
				{Op: impl.OpRecv, A: 1, B: 1, C: 2},
				{Op: impl.OpRecv, A: 2},
				{Op: impl.OpRecv, A: -1},
				{Op: impl.OpLock, A: 0},
				{Op: impl.OpLock, A: 1},
				{Op: impl.OpSelect, A: 0},
				{Op: impl.OpSelect, A: 1},
				{Op: impl.OpSelect, A: 2},
				{Op: impl.OpSelect, A: 3},
				{Op: impl.OpSelect, A: 4},
				{Op: impl.OpSelect, A: 5},
				{Op: impl.OpHalt},
			}},
		},
	}
}

// The places of the procedure 1 of waitProg.
const (
	atSend0 = iota
	atSend1
	atSend2
	atSendNil
	atRecv0
	atRecv1
	atRecv2
	atRecvNil
	atLock0
	atLock1
	atSelect0
	atSelect1
	atSelect2
	atSelectNil
	atSelectElse
	atElse
	atHalt
)

// sleeper waits at this place; each of its registers has another value.
func sleeper(pc int) impl.Gor {
	return impl.Gor{Proc: 1, Pc: pc, Regs: []int{10, 20, 30, 40, 50, 60}, State: impl.GsWait}
}

// plainEng is the engine at the beginning of p, whether p is right or not.
func plainEng(p impl.Prog) impl.Eng {
	e := impl.Eng{Gs: []impl.Gor{{Regs: []int{0, 0, 0, 0, 0, 0}, State: 1}}}
	for _, room := range p.Caps {
		e.Chans = append(e.Chans, impl.Chan{Cap: room})
	}
	for range min(p.Mus, 100) {
		e.Mus = append(e.Mus, impl.Mutex{Owner: -1})
	}
	return e
}

// sleepyEng is right in waitProg, has MaxGs goroutines, and some wait at each kind of thing.
func sleepyEng() impl.Eng {
	return impl.Eng{
		Gs: []impl.Gor{
			{Regs: []int{1, 0, 0, 0, 0, 0}, State: impl.GsReady},
			sleeper(atRecv0), sleeper(atSelect0), sleeper(atSelect2), sleeper(atSend1),
			sleeper(atLock0), sleeper(atLock0), sleeper(atRecvNil), sleeper(atSelectNil),
			{Proc: 1, Pc: atHalt, Regs: []int{0, 0, 0, 0, 0, 0}, State: impl.GsDone, Trace: []impl.Item{{Kind: impl.ItLocked, Obj: 1}, {Kind: impl.ItDone}}},
		},
		Chans: []impl.Chan{
			{Cap: 0, Recvs: []impl.Waiter{{G: 2, Case: 0}, {G: 1, Case: -1}, {G: 3, Case: 1}}},
			{Cap: 2, Buf: []int{7, 8}, Sends: []impl.Waiter{{G: 3, Case: 2, Val: 60}, {G: 4, Case: -1, Val: 40}, {G: 2, Case: 1, Val: 40}}},
			{Cap: 1, Buf: []int{9}, Closed: true},
		},
		Mus: []impl.Mutex{{Owner: 0, Wait: []int{6, 5}}, {Owner: 9}},
	}
}

func sameEng(a, b impl.Eng) bool {
	return slices.EqualFunc(a.Gs, b.Gs, sameGor) && slices.EqualFunc(a.Chans, b.Chans, sameChan) && slices.EqualFunc(a.Mus, b.Mus, sameMutex)
}

func copyEng(e impl.Eng) impl.Eng {
	var d impl.Eng
	for _, g := range e.Gs {
		d.Gs = append(d.Gs, copyGor(g))
	}
	for _, c := range e.Chans {
		d.Chans = append(d.Chans, copyChan(c))
	}
	for _, m := range e.Mus {
		d.Mus = append(d.Mus, copyMutex(m))
	}
	return d
}

// wantPlaces follows the document's words for each of the instructions that wait.
func wantPlaces(p impl.Prog, right bool, g impl.Gor, n int) []impl.Place {
	if !wantGorOk(p, right, g) || g.State != 2 || n < 0 {
		return nil
	}
	i := p.Procs[g.Proc].Code[g.Pc]
	switch {
	case i.Op == 8 && i.A != -1:
		return []impl.Place{{Obj: i.A, Send: true, W: impl.Waiter{G: n, Case: -1, Val: g.Regs[i.B]}}}
	case i.Op == 9 && i.A != -1:
		return []impl.Place{{Obj: i.A, W: impl.Waiter{G: n, Case: -1}}}
	case i.Op == 12:
		return []impl.Place{{Mutex: true, Obj: i.A, W: impl.Waiter{G: n, Case: -1}}}
	case i.Op != 11:
		return nil
	}
	var l []impl.Place
	for at, x := range p.Sels[i.A].Cases {
		switch {
		case x.Chan == -1:
		case x.Send:
			l = append(l, impl.Place{Obj: x.Chan, Send: true, W: impl.Waiter{G: n, Case: at, Val: g.Regs[x.Reg]}})
		default:
			l = append(l, impl.Place{Obj: x.Chan, W: impl.Waiter{G: n, Case: at}})
		}
	}
	return l
}

func wantMayWait(p impl.Prog, right bool, g impl.Gor) bool {
	if !wantGorOk(p, right, g) {
		return false
	}
	i := p.Procs[g.Proc].Code[g.Pc]
	return i.Op == 8 || i.Op == 9 || i.Op == 12 || i.Op == 11 && p.Sels[i.A].Else == -1
}

// foundPlaces are all the places at which anybody stands.
func foundPlaces(e impl.Eng) []impl.Place {
	var l []impl.Place
	for at, c := range e.Chans {
		for _, w := range c.Sends {
			l = append(l, impl.Place{Obj: at, Send: true, W: w})
		}
		for _, w := range c.Recvs {
			l = append(l, impl.Place{Obj: at, W: w})
		}
	}
	for at, m := range e.Mus {
		for _, g := range m.Wait {
			l = append(l, impl.Place{Mutex: true, Obj: at, W: impl.Waiter{G: g, Case: -1}})
		}
	}
	return l
}

// sameInAnyOrder strikes out of the one list what is met in the other.
func sameInAnyOrder[T comparable](a, b []T) bool {
	left := slices.Clone(b)
	for _, x := range a {
		at := slices.Index(left, x)
		if at < 0 {
			return false
		}
		left = slices.Delete(left, at, at+1)
	}
	return len(left) == 0
}

// wantEngOk says the document's conditions one by one, of a program that is right or not.
func wantEngOk(p impl.Prog, right bool, e impl.Eng) bool {
	if !right || len(e.Gs) == 0 || len(e.Gs) > 10 || len(e.Chans) != len(p.Caps) || len(e.Mus) != p.Mus {
		return false
	}
	var told []impl.Place
	for n, g := range e.Gs {
		if !wantGorOk(p, right, g) || g.State == 2 && !wantMayWait(p, right, g) {
			return false
		}
		told = append(told, wantPlaces(p, right, g, n)...)
	}
	for at, c := range e.Chans {
		if !wantChanOk(c) || c.Cap != p.Caps[at] {
			return false
		}
	}
	for _, m := range e.Mus {
		if !wantMutexOk(m) || m.Owner != -1 && (m.Owner < 0 || m.Owner >= len(e.Gs)) {
			return false
		}
	}
	return sameInAnyOrder(told, foundPlaces(e))
}

func wantInState(e impl.Eng, state int) []int {
	var l []int
	for _, n := range upTo(len(e.Gs)) {
		if e.Gs[n].State == state {
			l = append(l, n)
		}
	}
	return l
}

func TestEngTypes(t *testing.T) {
	x := impl.Place(struct {
		Mutex bool
		Obj   int
		Send  bool
		W     impl.Waiter
	}{true, 2, true, impl.Waiter{G: 3, Case: 4, Val: 5}})
	if x != (impl.Place{Mutex: true, Obj: 2, Send: true, W: impl.Waiter{G: 3, Case: 4, Val: 5}}) {
		t.Errorf("a place is %+v", x)
	}
	e := impl.Eng(struct {
		Gs    []impl.Gor
		Chans []impl.Chan
		Mus   []impl.Mutex
	}{make([]impl.Gor, 1), make([]impl.Chan, 2), make([]impl.Mutex, 3)})
	if len(e.Gs) != 1 || len(e.Chans) != 2 || len(e.Mus) != 3 {
		t.Errorf("an engine is %+v", e)
	}
}

func TestEngNew(t *testing.T) {
	for _, p := range append(rightProgs(), fullProg(), waitProg()) {
		e := impl.EngNew(p)
		if want := plainEng(p); !sameEng(e, want) {
			t.Fatalf("EngNew of %+v: %+v, not %+v", p, e, want)
		}
		if !impl.EngOk(p, e) {
			t.Fatalf("EngOk of the beginning of %+v is false", p)
		}
		if ready, asleep := impl.Ready(e), impl.Asleep(e); !slices.Equal(ready, []int{0}) || len(asleep) != 0 {
			t.Fatalf("%v are ready and %v wait at the beginning of %+v", ready, asleep, p)
		}
	}
}

func TestEngNewOneByOne(t *testing.T) {
	e := impl.EngNew(fullProg())
	if len(e.Gs) != 1 || !sameGor(e.Gs[0], impl.GorNew(0, 0)) {
		t.Errorf("the goroutines are %+v", e.Gs)
	}
	if !slices.EqualFunc(e.Chans, []impl.Chan{{Cap: 0}, {Cap: 2}, {Cap: 4}}, sameChan) {
		t.Errorf("the channels are %+v", e.Chans)
	}
	if !slices.EqualFunc(e.Mus, []impl.Mutex{{Owner: -1}, {Owner: -1}}, sameMutex) {
		t.Errorf("the mutexes are %+v", e.Mus)
	}
	e = impl.EngNew(impl.Prog{Procs: []impl.Proc{codeOf(1)}})
	if len(e.Gs) != 1 || len(e.Chans) != 0 || len(e.Mus) != 0 {
		t.Errorf("without channels and mutexes: %+v", e)
	}
}

func TestEngOfWrongProgs(t *testing.T) {
	try := func(what string, p impl.Prog) {
		if e := impl.EngNew(p); !sameEng(e, impl.Eng{}) {
			t.Errorf("%s: EngNew is %+v", what, e)
		}
		if impl.EngOk(p, plainEng(p)) || impl.EngOk(p, impl.Eng{}) {
			t.Errorf("%s: EngOk is true", what)
		}
		for pc := -1; pc < 12; pc++ {
			g := sleeper(pc)
			if l := impl.Places(p, g, 1); len(l) != 0 || impl.MayWait(p, g) {
				t.Errorf("%s: it waits at %+v", what, l)
			}
		}
	}
	for _, x := range wrongChanges() {
		p := fullProg()
		x.do(&p)
		try(x.what, p)
	}
	try("nothing of a program", impl.Prog{})
	twice := waitProg()
	twice.Sels[0].Cases[1].Chan = 0
	try("a channel by two cases of one select", twice)
	none := waitProg()
	none.Sels[5].Else = -1
	try("a select without a case and without an Else", none)
}

func wantedPlaces(t *testing.T, p impl.Prog, right bool, g impl.Gor, n int) {
	t.Helper()
	if got, want := impl.Places(p, g, n), wantPlaces(p, right, g, n); !slices.Equal(got, want) {
		t.Fatalf("Places(%+v, %d) = %+v, not %+v", g, n, got, want)
	}
	if got, want := impl.MayWait(p, g), wantMayWait(p, right, g); got != want {
		t.Fatalf("MayWait(%+v) = %v", g, got)
	}
}

// Each place of each procedure, in each state, with each kind of number.
func TestPlacesOfAllInstructions(t *testing.T) {
	for _, p := range append(rightProgs()[:60], waitProg(), fullProg()) {
		for proc := range p.Procs {
			for pc := range len(p.Procs[proc].Code) + 1 {
				for state := range 6 {
					g := impl.Gor{Proc: proc, Pc: pc, Regs: []int{5, 0, 999, 3, 2, 1}, State: state}
					for _, n := range []int{0, 1, 9, 10, -1} {
						wantedPlaces(t, p, true, g, n)
					}
				}
			}
		}
	}
}

func TestPlacesOfAllGors(t *testing.T) {
	p, wrong := fullProg(), fullProg()
	wrong.Sels[0].Cases[0].Reg = 6
	for at, g := range allGors() {
		wantedPlaces(t, p, true, g, at%12-1)
		if at%50 == 0 {
			wantedPlaces(t, wrong, false, g, at%12)
		}
	}
}

func TestPlacesOneByOne(t *testing.T) {
	at := func(obj int, send bool, number int, val int) impl.Place {
		return impl.Place{Obj: obj, Send: send, W: impl.Waiter{G: 4, Case: number, Val: val}}
	}
	for _, x := range []struct {
		what string
		pc   int
		may  bool
		want []impl.Place
	}{
		{"send 0", atSend0, true, []impl.Place{at(0, true, -1, 10)}},
		{"send 1", atSend1, true, []impl.Place{at(1, true, -1, 40)}},
		{"send 2", atSend2, true, []impl.Place{at(2, true, -1, 60)}},
		{"send nil", atSendNil, true, nil},
		{"recv 0", atRecv0, true, []impl.Place{at(0, false, -1, 0)}},
		{"recv 1", atRecv1, true, []impl.Place{at(1, false, -1, 0)}},
		{"recv 2", atRecv2, true, []impl.Place{at(2, false, -1, 0)}},
		{"recv nil", atRecvNil, true, nil},
		{"lock 0", atLock0, true, []impl.Place{{Mutex: true, W: impl.Waiter{G: 4, Case: -1}}}},
		{"lock 1", atLock1, true, []impl.Place{{Mutex: true, Obj: 1, W: impl.Waiter{G: 4, Case: -1}}}},
		{"select 0", atSelect0, true, []impl.Place{at(0, false, 0, 0), at(1, true, 1, 40)}},
		{"select 1", atSelect1, true, []impl.Place{at(0, true, 0, 50), at(1, false, 1, 0), at(2, true, 2, 60)}},
		{"select 2", atSelect2, true, []impl.Place{at(0, false, 1, 0), at(1, true, 2, 60)}},
		{"a select of nil channels", atSelectNil, true, nil},
		{"a select with an Else", atSelectElse, false, []impl.Place{at(0, false, 0, 0), at(2, true, 1, 20)}},
		{"a select without a case", atElse, false, nil},
		{"halt", atHalt, false, nil},
		{"one beyond", atHalt + 1, false, nil},
		{"one below", -1, false, nil},
		{"the greatest place", math.MaxInt, false, nil},
		{"the least place", math.MinInt, false, nil},
	} {
		g := sleeper(x.pc)
		if got := impl.Places(waitProg(), g, 4); !slices.Equal(got, x.want) {
			t.Errorf("%s: Places is %+v, not %+v", x.what, got, x.want)
		}
		if got := impl.MayWait(waitProg(), g); got != x.may {
			t.Errorf("%s: MayWait is %v", x.what, got)
		}
	}
}

// Nothing for each reason that the chapter names; MayWait asks neither for the state nor for a number.
func TestPlacesOfNone(t *testing.T) {
	dead := []impl.Item{{Kind: impl.ItDead, Val: 1}}
	for _, x := range []struct {
		what   string
		do     func(g *impl.Gor)
		places bool
		may    bool
	}{
		{"as it is", func(g *impl.Gor) {}, true, true},
		{"no state", func(g *impl.Gor) { g.State = 0 }, false, false},
		{"ready", func(g *impl.Gor) { g.State = impl.GsReady }, false, true},
		{"done", func(g *impl.Gor) { g.State, g.Trace = impl.GsDone, []impl.Item{{Kind: impl.ItDone}} }, false, true},
		{"dead", func(g *impl.Gor) { g.State, g.Trace = impl.GsDead, dead }, false, true},
		{"a state of 5", func(g *impl.Gor) { g.State = 5 }, false, false},
		{"a procedure that isn't there", func(g *impl.Gor) { g.Proc = 2 }, false, false},
		{"a procedure below 0", func(g *impl.Gor) { g.Proc = -1 }, false, false},
		{"a register too few", func(g *impl.Gor) { g.Regs = g.Regs[:5] }, false, false},
		{"no registers", func(g *impl.Gor) { g.Regs = nil }, false, false},
		{"a register of 1000", func(g *impl.Gor) { g.Regs[0] = 1000 }, false, false},
		{"an end in its trace", func(g *impl.Gor) { g.Trace = dead }, false, false},
	} {
		for _, pc := range []int{atSend1, atRecv1, atLock1, atSelect1} {
			g := sleeper(pc)
			x.do(&g)
			if got := impl.Places(waitProg(), g, 0); (len(got) > 0) != x.places {
				t.Errorf("%s: Places at %d is %+v", x.what, pc, got)
			}
			if got := impl.MayWait(waitProg(), g); got != x.may {
				t.Errorf("%s: MayWait at %d is %v", x.what, pc, got)
			}
		}
	}
}

func TestPlacesOfNumbers(t *testing.T) {
	for _, n := range []int{0, 1, 9, 10, 11, 1 << 32, math.MaxInt, -1, -2, math.MinInt} {
		for pc := range atHalt + 1 {
			wantedPlaces(t, waitProg(), true, sleeper(pc), n)
		}
	}
	if l := impl.Places(waitProg(), sleeper(atLock1), math.MaxInt); len(l) != 1 || l[0].W.G != math.MaxInt {
		t.Errorf("the greatest number waits at %+v", l)
	}
}

func TestMayWaitOfTheFifteen(t *testing.T) {
	for pc, want := range []bool{false, false, false, false, false, true, true, false, true, true, false, false, false, false, false} {
		g := impl.Gor{Pc: pc, Regs: []int{1, 2, 3, 4, 5, 6}, State: impl.GsWait}
		if got := impl.MayWait(waitProg(), g); got != want {
			t.Errorf("MayWait at the place %d is %v", pc, got)
		}
		if got := impl.Places(waitProg(), g, 0); (len(got) > 0) != want {
			t.Errorf("Places at the place %d is %+v", pc, got)
		}
	}
}

// engChange is one thing that is done to sleepyEng, and whether it is right then.
type engChange struct {
	what  string
	do    func(e *impl.Eng)
	right bool
}

func tryEngChanges(t *testing.T, l []engChange) {
	t.Helper()
	p := waitProg()
	for _, x := range l {
		e := sleepyEng()
		x.do(&e)
		if got := impl.EngOk(p, e); got != x.right {
			t.Errorf("%s: EngOk is %v", x.what, got)
		}
		if want := wantEngOk(p, true, e); want != x.right {
			t.Errorf("%s: the test itself takes it for %v", x.what, want)
		}
	}
}

func TestEngOkOfGoroutines(t *testing.T) {
	ready := impl.Gor{Regs: []int{0, 0, 0, 0, 0, 0}, State: impl.GsReady}
	l := []engChange{
		{"as it is", func(e *impl.Eng) {}, true},
		{"nothing of it", func(e *impl.Eng) { *e = impl.Eng{} }, false},
		{"no goroutines", func(e *impl.Eng) { *e = plainEng(waitProg()); e.Gs = nil }, false},
		{"one goroutine", func(e *impl.Eng) { *e = plainEng(waitProg()) }, true},
		{"one that waits for ever", func(e *impl.Eng) { *e = plainEng(waitProg()); e.Gs[0] = sleeper(atSelectNil) }, true},
		{"ten goroutines", func(e *impl.Eng) { *e = plainEng(waitProg()); e.Gs = slices.Repeat([]impl.Gor{ready}, 10) }, true},
		{"eleven goroutines", func(e *impl.Eng) { *e = plainEng(waitProg()); e.Gs = slices.Repeat([]impl.Gor{ready}, 11) }, false},
		{"one more behind the ten", func(e *impl.Eng) { e.Gs = append(e.Gs, ready) }, false},
		{"a thousand goroutines", func(e *impl.Eng) { *e = plainEng(waitProg()); e.Gs = slices.Repeat([]impl.Gor{ready}, 1000) }, false},
		{"the ready one elsewhere", func(e *impl.Eng) { e.Gs[0].Proc, e.Gs[0].Pc = 1, atRecv0 }, true},
		{"traces", func(e *impl.Eng) { e.Gs[3].Trace = []impl.Item{{Kind: impl.ItSent, Obj: 1, Val: 9}} }, true},
		{"one that waits at a halt", func(e *impl.Eng) { e.Gs[7].Pc = atHalt }, false},
		{"one that waits at a select that has only an Else", func(e *impl.Eng) { e.Gs[7].Pc = atElse }, false},
		{"one that waits at a set", func(e *impl.Eng) { e.Gs[7].Proc, e.Gs[7].Pc = 0, 0 }, false},
		{"one that waits at a close", func(e *impl.Eng) { e.Gs[7].Proc, e.Gs[7].Pc = 0, 7 }, false},
		{"one that waits at an unlock", func(e *impl.Eng) { e.Gs[7].Proc, e.Gs[7].Pc = 0, 10 }, false},
		{"one that is done at a receive", func(e *impl.Eng) { e.Gs[9].Pc = atRecv0 }, true},
	}
	for n := range 10 {
		l = append(l,
			engChange{"a state of 0", func(e *impl.Eng) { e.Gs[n].State = 0 }, false},
			engChange{"a state of 5", func(e *impl.Eng) { e.Gs[n].State = 5 }, false},
			engChange{"a place below 0", func(e *impl.Eng) { e.Gs[n].Pc = -1 }, false},
			engChange{"a procedure that isn't there", func(e *impl.Eng) { e.Gs[n].Proc = 2 }, false},
			engChange{"a register of 1000", func(e *impl.Eng) { e.Gs[n].Regs[1] = 1000 }, false},
			engChange{"a register too many", func(e *impl.Eng) { e.Gs[n].Regs = make([]int, 7) }, false},
			engChange{"an item that isn't right", func(e *impl.Eng) { e.Gs[n].Trace = append([]impl.Item{{}}, e.Gs[n].Trace...) }, false},
		)
	}
	tryEngChanges(t, l)
}

func TestEngOkOfChannels(t *testing.T) {
	tryEngChanges(t, []engChange{
		{"no channels", func(e *impl.Eng) { e.Chans = nil }, false},
		{"one too few", func(e *impl.Eng) { e.Chans = e.Chans[:2] }, false},
		{"one too many", func(e *impl.Eng) { e.Chans = append(e.Chans, impl.Chan{}) }, false},
		{"the last one open", func(e *impl.Eng) { e.Chans[2].Closed = false }, true},
		{"the last one empty", func(e *impl.Eng) { e.Chans[2].Buf = nil }, true},
		{"other values", func(e *impl.Eng) { e.Chans[1].Buf = []int{0, 999} }, true},
		{"a value of 1000", func(e *impl.Eng) { e.Chans[1].Buf[1] = 1000 }, false},
		{"a value of -1 in the last one", func(e *impl.Eng) { e.Chans[2].Buf[0] = -1 }, false},
		{"a capacity one more", func(e *impl.Eng) { e.Chans[2].Cap = 2 }, false},
		{"a capacity one less", func(e *impl.Eng) { e.Chans[2] = impl.Chan{Cap: 0} }, false},
		{"a first capacity one more", func(e *impl.Eng) { e.Chans[0].Cap = 1 }, false},
		{"a capacity that none may have", func(e *impl.Eng) { e.Chans[2].Cap = 5 }, false},
		{"a closed one where some wait to receive", func(e *impl.Eng) { e.Chans[0].Closed = true }, false},
		{"a closed one where some wait to send", func(e *impl.Eng) { e.Chans[1].Closed = true }, false},
		{"room where some wait to send", func(e *impl.Eng) { e.Chans[1].Buf = []int{7} }, false},
		{"two exchanged", func(e *impl.Eng) { e.Chans[1], e.Chans[2] = e.Chans[2], e.Chans[1] }, false},
	})
}

func TestEngOkOfMutexes(t *testing.T) {
	tryEngChanges(t, []engChange{
		{"no mutexes", func(e *impl.Eng) { e.Mus = nil }, false},
		{"one too few", func(e *impl.Eng) { e.Mus = e.Mus[:1] }, false},
		{"one too many", func(e *impl.Eng) { e.Mus = append(e.Mus, impl.Mutex{Owner: -1}) }, false},
		{"a free one", func(e *impl.Eng) { e.Mus[1].Owner = -1 }, true},
		{"another owner", func(e *impl.Eng) { e.Mus[1].Owner = 0 }, true},
		{"an owner that waits elsewhere", func(e *impl.Eng) { e.Mus[0].Owner = 4 }, true},
		{"an owner that waits at the other one", func(e *impl.Eng) { e.Mus[1].Owner = 5 }, true},
		{"an owner one beyond the last", func(e *impl.Eng) { e.Mus[1].Owner = 10 }, false},
		{"an owner one beyond the last, of the first", func(e *impl.Eng) { e.Mus[0].Owner = 10 }, false},
		{"an owner that went", func(e *impl.Eng) { e.Gs = e.Gs[:9] }, false},
		{"an owner that went, of a mutex that is free then", func(e *impl.Eng) { e.Gs, e.Mus[1].Owner = e.Gs[:9], -1 }, true},
		{"the greatest owner", func(e *impl.Eng) { e.Mus[1].Owner = math.MaxInt }, false},
		{"an owner of -2", func(e *impl.Eng) { e.Mus[1].Owner = -2 }, false},
		{"the least owner", func(e *impl.Eng) { e.Mus[1].Owner = math.MinInt }, false},
		{"a free one where some wait", func(e *impl.Eng) { e.Mus[0].Owner = -1 }, false},
		{"an owner that waits for itself", func(e *impl.Eng) { e.Mus[0].Owner = 5 }, false},
	})
}

func TestEngOkOfThoseThatWait(t *testing.T) {
	tryEngChanges(t, []engChange{
		{"the other way round at a channel", func(e *impl.Eng) { slices.Reverse(e.Chans[0].Recvs); slices.Reverse(e.Chans[1].Sends) }, true},
		{"the other way round at a mutex", func(e *impl.Eng) { slices.Reverse(e.Mus[0].Wait) }, true},

		{"missing where it receives", func(e *impl.Eng) { e.Chans[0].Recvs = impl.Drop(e.Chans[0].Recvs, 1) }, false},
		{"missing where it sends", func(e *impl.Eng) { e.Chans[1].Sends = impl.Drop(e.Chans[1].Sends, 4) }, false},
		{"missing where its select receives", func(e *impl.Eng) { e.Chans[0].Recvs = impl.Drop(e.Chans[0].Recvs, 2) }, false},
		{"missing where its select sends", func(e *impl.Eng) { e.Chans[1].Sends = impl.Drop(e.Chans[1].Sends, 3) }, false},
		{"missing at all places of its select", func(e *impl.Eng) {
			e.Chans[0].Recvs, e.Chans[1].Sends = impl.Drop(e.Chans[0].Recvs, 2), impl.Drop(e.Chans[1].Sends, 2)
		}, false},
		{"the first one missing at a mutex", func(e *impl.Eng) { e.Mus[0].Wait = []int{5} }, false},
		{"the second one missing at a mutex", func(e *impl.Eng) { e.Mus[0].Wait = []int{6} }, false},
		{"all missing at a mutex", func(e *impl.Eng) { e.Mus[0].Wait = nil }, false},

		{"twice where it receives", func(e *impl.Eng) { e.Chans[0].Recvs = append(e.Chans[0].Recvs, impl.Waiter{G: 1, Case: -1}) }, false},
		{"twice where it sends", func(e *impl.Eng) { e.Chans[1].Sends = append(e.Chans[1].Sends, impl.Waiter{G: 4, Case: -1, Val: 40}) }, false},
		{"twice where its select receives", func(e *impl.Eng) { e.Chans[0].Recvs = append(e.Chans[0].Recvs, impl.Waiter{G: 3, Case: 1}) }, false},
		{"twice at a mutex", func(e *impl.Eng) { e.Mus[0].Wait = []int{6, 5, 6} }, false},
		{"twice, and another one not at all", func(e *impl.Eng) { e.Chans[0].Recvs[0] = e.Chans[0].Recvs[1] }, false},

		{"another case", func(e *impl.Eng) { e.Chans[0].Recvs[0].Case = 1 }, false},
		{"another case where it sends", func(e *impl.Eng) { e.Chans[1].Sends[0].Case = 1 }, false},
		{"a case of one in no select", func(e *impl.Eng) { e.Chans[0].Recvs[1].Case = 0 }, false},
		{"no case of one in a select", func(e *impl.Eng) { e.Chans[0].Recvs[0].Case = -1 }, false},
		{"a case below -1", func(e *impl.Eng) { e.Chans[0].Recvs[0].Case = -2 }, false},
		{"a case that there isn't", func(e *impl.Eng) { e.Chans[0].Recvs[0].Case = 4 }, false},
		{"another value", func(e *impl.Eng) { e.Chans[1].Sends[1].Val = 41 }, false},
		{"another value of a select", func(e *impl.Eng) { e.Chans[1].Sends[0].Val = 40 }, false},
		{"a value of one that receives", func(e *impl.Eng) { e.Chans[0].Recvs[1].Val = 1 }, false},
		{"another value in the register", func(e *impl.Eng) { e.Gs[4].Regs[3] = 41 }, false},
		{"another value in a register that isn't sent", func(e *impl.Eng) { e.Gs[4].Regs[0] = 41 }, true},

		{"two that exchange their numbers", func(e *impl.Eng) { e.Chans[0].Recvs[0].G, e.Chans[0].Recvs[1].G = 1, 2 }, false},
		{"one more that is no goroutine", func(e *impl.Eng) { e.Chans[0].Recvs = append(e.Chans[0].Recvs, impl.Waiter{G: 10, Case: -1}) }, false},
		{"the greatest number", func(e *impl.Eng) {
			e.Chans[1].Sends = append(e.Chans[1].Sends, impl.Waiter{G: math.MaxInt, Case: -1, Val: 40})
		}, false},
		{"a number below 0", func(e *impl.Eng) { e.Chans[0].Recvs[1].G = -1 }, false},
		{"no goroutine at a mutex", func(e *impl.Eng) { e.Mus[0].Wait = []int{6, 5, 10} }, false},
		{"no goroutine in the place of one at a mutex", func(e *impl.Eng) { e.Mus[0].Wait = []int{6, 10} }, false},

		{"one that is ready where it would receive", func(e *impl.Eng) {
			e.Gs[0].Proc, e.Gs[0].Pc = 1, atRecv0
			e.Chans[0].Recvs = append(e.Chans[0].Recvs, impl.Waiter{G: 0, Case: -1})
		}, false},
		{"one that is ready no more, where it receives", func(e *impl.Eng) {
			e.Gs[0] = sleeper(atRecv0)
			e.Chans[0].Recvs = append(e.Chans[0].Recvs, impl.Waiter{G: 0, Case: -1})
		}, true},
		{"one that became ready and stands there yet", func(e *impl.Eng) { e.Gs[1].State = impl.GsReady }, false},
		{"one that became ready and stands at a mutex yet", func(e *impl.Eng) { e.Gs[5].State = impl.GsReady }, false},
		{"one that died and stands there yet", func(e *impl.Eng) { e.Gs[1] = impl.Over(e.Gs[1], impl.WyNil) }, false},
		{"one that is done and stands at a mutex yet", func(e *impl.Eng) { e.Gs[6] = impl.Over(e.Gs[6], 0) }, false},
		{"one that is done at a mutex", func(e *impl.Eng) { e.Mus[0].Wait = []int{6, 5, 9} }, false},
		{"one that became ready and went from there", func(e *impl.Eng) {
			e.Gs[1].State, e.Chans[0].Recvs = impl.GsReady, impl.Drop(e.Chans[0].Recvs, 1)
		}, true},
		{"one that waits for ever, at a channel", func(e *impl.Eng) { e.Chans[0].Recvs = append(e.Chans[0].Recvs, impl.Waiter{G: 7, Case: -1}) }, false},
		{"one that waits for ever by a select, at a channel", func(e *impl.Eng) { e.Chans[0].Recvs = append(e.Chans[0].Recvs, impl.Waiter{G: 8, Case: 0}) }, false},
		{"one that waits for ever, at a mutex", func(e *impl.Eng) { e.Mus[0].Wait = append(e.Mus[0].Wait, 7) }, false},

		{"one in the wrong queue", func(e *impl.Eng) {
			e.Chans[1].Sends, e.Chans[2] = nil, impl.Chan{Cap: 1, Buf: []int{9}, Sends: e.Chans[1].Sends}
		}, false},
		{"one at the wrong channel", func(e *impl.Eng) {
			e.Chans[0].Recvs, e.Chans[2] = impl.Drop(e.Chans[0].Recvs, 1), impl.Chan{Cap: 1, Recvs: []impl.Waiter{{G: 1, Case: -1}}}
		}, false},
		{"one at one more channel", func(e *impl.Eng) { e.Chans[2] = impl.Chan{Cap: 1, Recvs: []impl.Waiter{{G: 1, Case: -1}}} }, false},
		{"one at the wrong mutex", func(e *impl.Eng) { e.Mus[0].Wait, e.Mus[1].Wait = []int{6}, []int{5} }, false},
		{"one at both mutexes", func(e *impl.Eng) { e.Mus[1].Wait = []int{5} }, false},
		{"one at a mutex and at a channel", func(e *impl.Eng) { e.Chans[0].Recvs = append(e.Chans[0].Recvs, impl.Waiter{G: 5, Case: -1}) }, false},
		{"one at a channel and at a mutex", func(e *impl.Eng) { e.Mus[1].Wait = []int{1} }, false},
		{"another place, where it stands as well", func(e *impl.Eng) { e.Gs[5].Pc, e.Mus[0].Wait, e.Mus[1].Wait = atLock1, []int{6}, []int{5} }, true},
		{"another place, but it stands where it did", func(e *impl.Eng) { e.Gs[5].Pc = atLock1 }, false},
	})
}

// sidedEng has one channel, at which the goroutine 1 waits by a select, and its Waiter in Sends or in Recvs.
func sidedEng(pc int, send bool, w impl.Waiter) impl.Eng {
	e := plainEng(waitProg())
	e.Gs = append(e.Gs, sleeper(pc))
	if send {
		e.Chans[0].Sends = []impl.Waiter{w}
	} else {
		e.Chans[0].Recvs = []impl.Waiter{w}
	}
	return e
}

func TestEngOkOfSides(t *testing.T) {
	for _, x := range []struct {
		what  string
		pc    int
		send  bool
		w     impl.Waiter
		right bool
	}{
		{"sends and stands in Sends", atSend0, true, impl.Waiter{G: 1, Case: -1, Val: 10}, true},
		{"sends and stands in Recvs", atSend0, false, impl.Waiter{G: 1, Case: -1}, false},
		{"receives and stands in Recvs", atRecv0, false, impl.Waiter{G: 1, Case: -1}, true},
		{"receives and stands in Sends", atRecv0, true, impl.Waiter{G: 1, Case: -1}, false},
		{"receives and stands in Sends with a value", atRecv0, true, impl.Waiter{G: 1, Case: -1, Val: 20}, false},
		{"sends the value of another register", atSend0, true, impl.Waiter{G: 1, Case: -1, Val: 20}, false},
		{"sends nothing", atSend0, true, impl.Waiter{G: 1, Case: -1}, false},
		{"is another one", atSend0, true, impl.Waiter{G: 0, Case: -1, Val: 10}, false},
	} {
		e := sidedEng(x.pc, x.send, x.w)
		if got := impl.EngOk(waitProg(), e); got != x.right {
			t.Errorf("one that %s: EngOk is %v", x.what, got)
		}
	}
	// With a value of 0 nothing but the side tells the one from the other.
	for _, send := range []bool{false, true} {
		for _, pc := range []int{atSend0, atRecv0} {
			e := sidedEng(pc, send, impl.Waiter{G: 1, Case: -1})
			e.Gs[1].Regs[0] = 0
			if got := impl.EngOk(waitProg(), e); got != (send == (pc == atSend0)) {
				t.Errorf("at the place %d, in Sends %v: EngOk is %v", pc, send, got)
			}
		}
	}
}

// A select with an Else never waits, though it stands at all its places.
func TestEngOkOfAnElse(t *testing.T) {
	e := plainEng(waitProg())
	e.Gs = append(e.Gs, sleeper(atSelectElse))
	e.Chans[0].Recvs = []impl.Waiter{{G: 1, Case: 0}}
	e.Chans[2] = impl.Chan{Cap: 1, Buf: []int{3}, Sends: []impl.Waiter{{G: 1, Case: 1, Val: 20}}}
	p := waitProg()
	for _, x := range []struct {
		other int
		right bool
	}{{1, false}, {0, false}, {-1, true}} {
		p.Sels[4].Else = x.other
		if got := impl.EngOk(p, e); got != x.right {
			t.Errorf("with an Else of %d: EngOk is %v", x.other, got)
		}
	}
}

// One select waits at three channels, and stands at each of them or not.
func TestEngOkOfEachPlaceOfASelect(t *testing.T) {
	for bits := range 8 {
		e := plainEng(waitProg())
		e.Gs = append(e.Gs, sleeper(atSelect1))
		if bits&1 != 0 {
			e.Chans[0].Sends = []impl.Waiter{{G: 1, Case: 0, Val: 50}}
		}
		if bits&2 != 0 {
			e.Chans[1].Recvs = []impl.Waiter{{G: 1, Case: 1}}
		}
		e.Chans[2].Buf = []int{0}
		if bits&4 != 0 {
			e.Chans[2].Sends = []impl.Waiter{{G: 1, Case: 2, Val: 60}}
		}
		if got := impl.EngOk(waitProg(), e); got != (bits == 7) {
			t.Errorf("with the bits %d: EngOk is %v", bits, got)
		}
	}
}

// anyGor is a right goroutine at any place, in any state in which it may be there.
func anyGor(roll func(int) int, p impl.Prog) impl.Gor {
	g := impl.Gor{Proc: roll(len(p.Procs)), Regs: make([]int, 6), State: roll(2) + 1}
	g.Pc = roll(len(p.Procs[g.Proc].Code))
	for k := range g.Regs {
		g.Regs[k] = roll(4)
	}
	if g.State == impl.GsWait && !wantMayWait(p, true, g) {
		g = impl.Over(g, roll(6))
	}
	return g
}

// sides tells of each channel whether one may wait there to send (1) or to receive (2), and of each mutex who has it.
type sides struct {
	chans  []int
	owners []int
}

func (s sides) fits(n int, l []impl.Place) bool {
	for _, x := range l {
		switch {
		case x.Mutex && (s.owners[x.Obj] == -1 || s.owners[x.Obj] == n):
			return false
		case !x.Mutex && x.Send != (s.chans[x.Obj] == 1), !x.Mutex && s.chans[x.Obj] == 0:
			return false
		}
	}
	return true
}

func anywhere[T any](roll func(int) int, l []T, x T) []T {
	return slices.Insert(l, roll(len(l)+1), x)
}

func stand(roll func(int) int, e *impl.Eng, x impl.Place) {
	switch {
	case x.Mutex:
		e.Mus[x.Obj].Wait = anywhere(roll, e.Mus[x.Obj].Wait, x.W.G)
	case x.Send:
		e.Chans[x.Obj].Sends = anywhere(roll, e.Chans[x.Obj].Sends, x.W)
	default:
		e.Chans[x.Obj].Recvs = anywhere(roll, e.Chans[x.Obj].Recvs, x.W)
	}
}

// fill gives the channel as many values as it must have, or any number of them.
func fill(roll func(int) int, c *impl.Chan) {
	n := roll(c.Cap + 1)
	switch {
	case len(c.Sends) > 0:
		n = c.Cap
	case len(c.Recvs) > 0:
		n = 0
	default:
		c.Closed = roll(2) == 0
	}
	for range n {
		c.Buf = append(c.Buf, roll(1000))
	}
}

// anyEng is right in p.
func anyEng(roll func(int) int, p impl.Prog) impl.Eng {
	e := plainEng(p)
	e.Gs = nil
	gors := roll(10) + 1
	var s sides
	for range p.Caps {
		s.chans = append(s.chans, roll(3))
	}
	for m := range e.Mus {
		e.Mus[m].Owner = roll(gors+1) - 1
		s.owners = append(s.owners, e.Mus[m].Owner)
	}
	for n := range gors {
		g := anyGor(roll, p)
		l := wantPlaces(p, true, g, n)
		if !s.fits(n, l) {
			g.State, l = impl.GsReady, nil
		}
		e.Gs = append(e.Gs, g)
		for _, x := range l {
			stand(roll, &e, x)
		}
	}
	for k := range e.Chans {
		fill(roll, &e.Chans[k])
	}
	return e
}

// spoilSide does something to those that wait at one side of a channel.
func spoilSide(roll func(int) int, l []impl.Waiter) []impl.Waiter {
	if len(l) == 0 {
		return append(l, impl.Waiter{G: roll(11), Case: roll(4) - 1, Val: roll(2)})
	}
	at := roll(len(l))
	switch roll(6) {
	case 0:
		return slices.Delete(l, at, at+1)
	case 1:
		return append(l, l[at])
	case 2:
		l[at].G = roll(12) - 1
	case 3:
		l[at].Case = roll(5) - 1
	case 4:
		l[at].Val = roll(4)
	case 5:
		slices.Reverse(l)
	}
	return l
}

func spoilChanOf(roll func(int) int, e *impl.Eng) {
	if len(e.Chans) == 0 {
		e.Chans = append(e.Chans, impl.Chan{})
		return
	}
	c := &e.Chans[roll(len(e.Chans))]
	d := &e.Chans[roll(len(e.Chans))]
	switch roll(8) {
	case 0, 1:
		c.Sends = spoilSide(roll, c.Sends)
	case 2, 3:
		c.Recvs = spoilSide(roll, c.Recvs)
	case 4:
		c.Sends, d.Sends = d.Sends, c.Sends
	case 5:
		c.Recvs, d.Recvs = d.Recvs, c.Recvs
	case 6:
		c.Cap = roll(5)
	case 7:
		e.Chans = e.Chans[:len(e.Chans)-1]
	}
}

func spoilMutexOf(roll func(int) int, e *impl.Eng) {
	if len(e.Mus) == 0 {
		e.Mus = append(e.Mus, impl.Mutex{Owner: -1})
		return
	}
	m := &e.Mus[roll(len(e.Mus))]
	d := &e.Mus[roll(len(e.Mus))]
	switch roll(5) {
	case 0:
		m.Owner = roll(12) - 1
	case 1:
		m.Wait = append(m.Wait, roll(11))
	case 2:
		m.Wait = m.Wait[:roll(len(m.Wait)+1)]
	case 3:
		m.Wait, d.Wait = d.Wait, m.Wait
	case 4:
		e.Mus = e.Mus[:len(e.Mus)-1]
	}
}

func spoilGorOf(roll func(int) int, e *impl.Eng) {
	g := &e.Gs[roll(len(e.Gs))]
	d := &e.Gs[roll(len(e.Gs))]
	switch roll(6) {
	case 0:
		g.State = roll(6)
	case 1:
		g.Pc = roll(20) - 1
	case 2:
		g.Regs[roll(6)] = roll(4)
	case 3:
		*g, *d = *d, *g
	case 4:
		e.Gs = append(e.Gs, copyGor(*g))
	case 5:
		e.Gs = e.Gs[:len(e.Gs)-1]
	}
}

// Right engines of any kind, and such as were spoilt in one way or in several.
func TestEngOkOfAnyEngs(t *testing.T) {
	roll := dice()
	right, wrong := 0, 0
	for round := range 20000 {
		p := waitProg()
		if round%4 == 0 {
			p = anyProg(roll)
		}
		e := anyEng(roll, p)
		if !wantEngOk(p, true, e) || !impl.EngOk(p, e) {
			t.Fatalf("EngOk of %+v is %v", e, impl.EngOk(p, e))
		}
		for range roll(3) + 1 {
			spoils := []func(func(int) int, *impl.Eng){spoilChanOf, spoilMutexOf, spoilGorOf}
			if len(e.Gs) > 0 {
				spoils[roll(3)](roll, &e)
			}
		}
		want := wantEngOk(p, true, e)
		if got := impl.EngOk(p, e); got != want {
			t.Fatalf("EngOk of %+v is %v", e, got)
		}
		if want {
			right++
		} else {
			wrong++
		}
	}
	if right < 1000 || wrong < 1000 {
		t.Errorf("%d were right and %d wrong", right, wrong)
	}
}

// shortLists are all lists of at most two of these waiters.
func shortLists(all []impl.Waiter) [][]impl.Waiter {
	lists := [][]impl.Waiter{nil}
	for _, a := range all {
		lists = append(lists, []impl.Waiter{a})
		for _, b := range all {
			lists = append(lists, []impl.Waiter{a, b})
		}
	}
	return lists
}

// pairEngs are two goroutines at these places, each ready or waiting, with l at either side of the channel 0.
func pairEngs(first, second int, l []impl.Waiter) []impl.Eng {
	var engs []impl.Eng
	for states := range 4 {
		for side := range 2 {
			e := plainEng(waitProg())
			e.Gs = []impl.Gor{sleeper(first), sleeper(second)}
			e.Gs[0].State, e.Gs[1].State = states%2+1, states/2+1
			if side == 0 {
				e.Chans[0].Sends = l
			} else {
				e.Chans[0].Recvs = l
			}
			engs = append(engs, e)
		}
	}
	return engs
}

// Two goroutines that send, receive or do neither, and at one channel each list of one or two that wait there.
func TestEngOkOfPairs(t *testing.T) {
	p := waitProg()
	var all []impl.Waiter
	for g := range 3 {
		for _, number := range []int{-1, 0, 1} {
			for _, val := range []int{0, 10, 50} {
				all = append(all, impl.Waiter{G: g, Case: number, Val: val})
			}
		}
	}
	right := 0
	places := []int{atSend0, atRecv0, atSelectElse, atSelectNil, atHalt}
	for at := range len(places) * len(places) {
		for _, l := range shortLists(all) {
			for _, e := range pairEngs(places[at/len(places)], places[at%len(places)], l) {
				want := wantEngOk(p, true, e)
				if got := impl.EngOk(p, e); got != want {
					t.Fatalf("EngOk of %+v is %v", e, got)
				}
				if want {
					right++
				}
			}
		}
	}
	if right < 60 {
		t.Errorf("only %d were right", right)
	}
}

// someEngs are right and wrong ones, with lists of each kind.
func someEngs() []impl.Eng {
	wrong := impl.Eng{
		Gs:    []impl.Gor{{}, {Proc: -1, Pc: math.MaxInt, Regs: []int{-1}, State: 9, Trace: []impl.Item{{}}}, sleeper(atHalt)},
		Chans: []impl.Chan{{Cap: -1, Buf: []int{-1}, Sends: []impl.Waiter{{G: -1}}, Recvs: []impl.Waiter{{G: 99}}, Closed: true}},
		Mus:   []impl.Mutex{{Owner: math.MinInt, Wait: []int{-1, -1}}},
	}
	l := []impl.Eng{{}, {Gs: []impl.Gor{}, Chans: []impl.Chan{}, Mus: []impl.Mutex{}}, wrong, sleepyEng(), plainEng(waitProg()), plainEng(fullProg())}
	roll := dice()
	for range 100 {
		e := anyEng(roll, waitProg())
		l = append(l, e)
		d := copyEng(e)
		spoilChanOf(roll, &d)
		spoilMutexOf(roll, &d)
		l = append(l, d)
	}
	return l
}

func TestReadyAndAsleep(t *testing.T) {
	for _, e := range someEngs() {
		if got, want := impl.Ready(e), wantInState(e, 1); !slices.Equal(got, want) {
			t.Errorf("Ready of %+v is %v", e, got)
		}
		if got, want := impl.Asleep(e), wantInState(e, 2); !slices.Equal(got, want) {
			t.Errorf("Asleep of %+v is %v", e, got)
		}
	}
}

func TestReadyAndAsleepOneByOne(t *testing.T) {
	for _, x := range []struct {
		states, ready, asleep []int
	}{
		{nil, nil, nil},
		{[]int{1}, []int{0}, nil},
		{[]int{2}, nil, []int{0}},
		{[]int{3}, nil, nil},
		{[]int{4}, nil, nil},
		{[]int{0}, nil, nil},
		{[]int{5}, nil, nil},
		{[]int{-1, math.MaxInt, math.MinInt}, nil, nil},
		{[]int{1, 1, 1}, []int{0, 1, 2}, nil},
		{[]int{2, 2, 2}, nil, []int{0, 1, 2}},
		{[]int{3, 2, 1, 4, 2, 1, 0, 5}, []int{2, 5}, []int{1, 4}},
		{[]int{2, 1, 1, 2, 3, 4, 1, 2, 2, 1, 2, 1}, []int{1, 2, 6, 9, 11}, []int{0, 3, 7, 8, 10}},
	} {
		var e impl.Eng
		for _, state := range x.states {
			e.Gs = append(e.Gs, impl.Gor{State: state})
		}
		if got := impl.Ready(e); !slices.Equal(got, x.ready) {
			t.Errorf("of the states %v: Ready is %v", x.states, got)
		}
		if got := impl.Asleep(e); !slices.Equal(got, x.asleep) {
			t.Errorf("of the states %v: Asleep is %v", x.states, got)
		}
	}
	if ready, asleep := impl.Ready(sleepyEng()), impl.Asleep(sleepyEng()); !slices.Equal(ready, []int{0}) || !slices.Equal(asleep, []int{1, 2, 3, 4, 5, 6, 7, 8}) {
		t.Errorf("%v are ready and %v wait", ready, asleep)
	}
}

// engAnswer is what one call of the layer answers; what isn't answered is left zero.
type engAnswer struct {
	e      impl.Eng
	places []impl.Place
	ints   []int
	ok     bool
}

func sameAnswer(a, b engAnswer) bool {
	return sameEng(a.e, b.e) && slices.Equal(a.places, b.places) && slices.Equal(a.ints, b.ints) && a.ok == b.ok
}

func copyAnswer(x engAnswer) engAnswer {
	return engAnswer{copyEng(x.e), slices.Clone(x.places), slices.Clone(x.ints), x.ok}
}

// engCall is one call of the layer, with as much of its arguments as it takes; of an engine with goroutines it asks for the last one.
type engCall struct {
	what string
	call func(p impl.Prog, e impl.Eng) engAnswer
}

func lastGor(e impl.Eng) (impl.Gor, int) {
	if len(e.Gs) == 0 {
		return impl.Gor{}, -1
	}
	return e.Gs[len(e.Gs)-1], len(e.Gs) - 1
}

func engCalls() []engCall {
	return []engCall{
		{"EngNew", func(p impl.Prog, e impl.Eng) engAnswer { return engAnswer{e: impl.EngNew(p)} }},
		{"Places", func(p impl.Prog, e impl.Eng) engAnswer {
			g, n := lastGor(e)
			return engAnswer{places: impl.Places(p, g, n)}
		}},
		{"MayWait", func(p impl.Prog, e impl.Eng) engAnswer {
			g, _ := lastGor(e)
			return engAnswer{ok: impl.MayWait(p, g)}
		}},
		{"EngOk", func(p impl.Prog, e impl.Eng) engAnswer { return engAnswer{ok: impl.EngOk(p, e)} }},
		{"Ready", func(p impl.Prog, e impl.Eng) engAnswer { return engAnswer{ints: impl.Ready(e)} }},
		{"Asleep", func(p impl.Prog, e impl.Eng) engAnswer { return engAnswer{ints: impl.Asleep(e)} }},
	}
}

// inRoom is l with marks ahead of it and in the room behind its end, and whether the marks are as they were.
func inRoom[T any](l []T, mark T, same func(a, b T) bool) ([]T, func() bool) {
	room := slices.Concat([]T{mark}, l, []T{mark, mark})
	return room[1 : len(l)+1], func() bool {
		return same(room[0], mark) && same(room[len(l)+1], mark) && same(room[len(l)+2], mark)
	}
}

// roomyEng is e in lists with marks around them, and whether all of that is as it was.
func roomyEng(e impl.Eng) (impl.Eng, func() bool) {
	kept := copyEng(e)
	var checks []func() bool
	note := func(check func() bool) { checks = append(checks, check) }
	d := copyEng(e)
	for k := range d.Gs {
		g, check := roomyGor(d.Gs[k])
		d.Gs[k] = g
		note(check)
	}
	for k := range d.Chans {
		c, check := roomyChan(d.Chans[k])
		d.Chans[k] = c
		note(check)
	}
	for k := range d.Mus {
		m, check := roomyMutex(d.Mus[k])
		d.Mus[k] = m
		note(check)
	}
	var check func() bool
	d.Gs, check = inRoom(d.Gs, impl.Gor{Proc: roomMark}, sameGor)
	note(check)
	d.Chans, check = inRoom(d.Chans, impl.Chan{Cap: roomMark}, sameChan)
	note(check)
	d.Mus, check = inRoom(d.Mus, impl.Mutex{Owner: roomMark}, sameMutex)
	note(check)
	own := d
	return d, func() bool {
		for _, check := range checks {
			if !check() {
				return false
			}
		}
		return sameEng(own, kept)
	}
}

func spoilEng(e impl.Eng) {
	for _, g := range e.Gs {
		spoilGor(g)
	}
	for _, c := range e.Chans {
		spoilList(c.Buf, 555)
		spoilList(c.Sends, impl.Waiter{G: 555})
		spoilList(c.Recvs, impl.Waiter{G: 555})
	}
	for _, m := range e.Mus {
		spoilList(m.Wait, 555)
	}
	spoilList(e.Gs, impl.Gor{Proc: 555})
	spoilList(e.Chans, impl.Chan{Cap: 555})
	spoilList(e.Mus, impl.Mutex{Owner: 555})
}

func spoilAnswer(x engAnswer) {
	spoilEng(x.e)
	spoilList(x.places, impl.Place{Obj: 555})
	spoilList(x.ints, 555)
}

func TestEngLeavesArguments(t *testing.T) {
	for _, e := range someEngs() {
		for _, x := range engCalls() {
			for _, p := range []impl.Prog{waitProg(), fullProg(), {}} {
				kept := copyProg(p)
				d, same := roomyEng(e)
				x.call(p, d)
				if !same() || !sameProg(p, kept) {
					t.Fatalf("%s changes %+v or %+v", x.what, e, p)
				}
			}
		}
	}
}

func TestEngAnswersAreNewMemory(t *testing.T) {
	for _, e := range someEngs() {
		for _, x := range engCalls() {
			p := waitProg()
			want := copyAnswer(x.call(waitProg(), e))
			d, same := roomyEng(e)
			first, second := x.call(p, d), x.call(p, d)
			spoilAnswer(first)
			if !same() || !sameProg(p, waitProg()) {
				t.Fatalf("%s of %+v: the answer shares memory with an argument", x.what, e)
			}
			if !sameAnswer(second, want) {
				t.Fatalf("%s of %+v: two answers share memory", x.what, e)
			}
			spoilEng(d)
			spoilProg(p)
			if !sameAnswer(second, want) {
				t.Fatalf("%s of %+v: the answer changes with an argument", x.what, e)
			}
		}
	}
}

// What is joined to one list of a new engine is seen in no other one.
func TestEngNewListsAreApart(t *testing.T) {
	p := widestProg()
	for k := range 6 {
		e := impl.EngNew(p)
		want := copyEng(e)
		e.Chans[k].Buf = append(e.Chans[k].Buf, 1)
		e.Chans[k].Sends = append(e.Chans[k].Sends, impl.Waiter{G: 2})
		e.Chans[k].Recvs = append(e.Chans[k].Recvs, impl.Waiter{G: 3})
		want.Chans[k].Buf, want.Chans[k].Sends, want.Chans[k].Recvs = []int{1}, []impl.Waiter{{G: 2}}, []impl.Waiter{{G: 3}}
		e.Mus[k%4].Wait = append(e.Mus[k%4].Wait, 4)
		want.Mus[k%4].Wait = []int{4}
		e.Gs[0].Trace = append(e.Gs[0].Trace, impl.Item{Kind: 5})
		e.Gs[0].Regs = append(e.Gs[0].Regs, 6)
		want.Gs[0].Trace, want.Gs[0].Regs = []impl.Item{{Kind: 5}}, []int{0, 0, 0, 0, 0, 0, 6}
		if !sameEng(e, want) || !sameEng(impl.EngNew(p), plainEng(p)) {
			t.Errorf("%+v, not %+v", e, want)
		}
	}
}

func turnedEng(e impl.Eng) impl.Eng {
	d := copyEng(e)
	for k, g := range d.Gs {
		d.Gs[k].Regs, d.Gs[k].Trace = turned(g.Regs), turned(g.Trace)
	}
	for k, c := range d.Chans {
		d.Chans[k].Buf, d.Chans[k].Sends, d.Chans[k].Recvs = turned(c.Buf), turned(c.Sends), turned(c.Recvs)
	}
	for k, m := range d.Mus {
		d.Mus[k].Wait = turned(m.Wait)
	}
	return impl.Eng{Gs: turned(d.Gs), Chans: turned(d.Chans), Mus: turned(d.Mus)}
}

func turnedProg(p impl.Prog) impl.Prog {
	d := copyProg(p)
	for k, s := range d.Sels {
		d.Sels[k].Cases = turned(s.Cases)
	}
	for k, x := range d.Procs {
		d.Procs[k].Code = turned(x.Code)
	}
	return impl.Prog{Caps: turned(d.Caps), Mus: d.Mus, Sels: turned(d.Sels), Procs: turned(d.Procs)}
}

func TestEngOfNilAndEmptyLists(t *testing.T) {
	bare := impl.Prog{Procs: []impl.Proc{codeOf(1)}}
	for _, p := range []impl.Prog{waitProg(), bare, {Procs: []impl.Proc{{}}}, {}} {
		for _, e := range append(someEngs(), plainEng(bare)) {
			for _, x := range engCalls() {
				want := x.call(p, e)
				if got := x.call(turnedProg(p), turnedEng(e)); !sameAnswer(got, want) {
					t.Fatalf("%s of %+v: %+v with nil and empty lists exchanged, not %+v", x.what, e, got, want)
				}
			}
		}
	}
	if !impl.EngOk(bare, plainEng(bare)) || !impl.EngOk(turnedProg(bare), turnedEng(plainEng(bare))) {
		t.Error("an engine without channels and mutexes isn't right")
	}
}

// Asking of one engine leaves nothing behind for the next call, and the same is answered each time.
func TestEngKeepsNothing(t *testing.T) {
	all := someEngs()
	for at, e := range all {
		for _, x := range engCalls() {
			want := x.call(waitProg(), e)
			for _, y := range engCalls() {
				y.call(fullProg(), all[(at+1)%len(all)])
				y.call(waitProg(), sleepyEng())
			}
			for range 3 {
				if got := x.call(waitProg(), e); !sameAnswer(got, want) {
					t.Fatalf("%s of %+v: %+v behind other calls, not %+v", x.what, e, got, want)
				}
			}
		}
	}
}
