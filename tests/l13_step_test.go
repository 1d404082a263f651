package tests

import (
	"math"
	"slices"
	"testing"

	"loop.example/g00679/impl"
)

// mostTurned is the document's bound of Turns, which has no constant there.
const mostTurned = 2000

// wantStep follows the document's words: who is ready, which of them it is, and what is told of it.
func wantStep(p impl.Prog, right bool, e impl.Eng, k impl.Pick) (impl.Eng, impl.Deed, bool) {
	ready := wantInState(e, 1)
	if !wantEngOk(p, right, e) || len(ready) == 0 {
		return impl.Eng{}, impl.Deed{}, false
	}
	n := ready[restOf(k.G, len(ready))]
	i := p.Procs[e.Gs[n].Proc].Code[e.Gs[n].Pc]
	d := impl.Deed{G: n, Op: i.Op, Obj: wantObjOf(i), Case: -2}
	if i.Op >= 8 {
		next, chosen := wantDoShared(p, right, e, n, k.C)
		d.Case = chosen
		return next, d, true
	}
	next := copyEng(e)
	next.Gs[n], _ = wantStepLocal(p, right, e.Gs[n])
	return next, d, true
}

func wantObjOf(i impl.Instr) int {
	switch i.Op {
	case 8, 9, 10, 11, 12, 13, 14:
		return i.A
	}
	return 0
}

func wantSteps(p impl.Prog, right bool, e impl.Eng, l []impl.Pick) (impl.Eng, []impl.Deed) {
	if !wantEngOk(p, right, e) {
		return impl.Eng{}, nil
	}
	var deeds []impl.Deed
	for _, k := range l {
		next, d, ok := wantStep(p, right, e, k)
		if !ok {
			break
		}
		e = next
		deeds = append(deeds, d)
	}
	return e, deeds
}

// keepsTraces tells whether each trace of e is a beginning of that in next, and nobody of e is missing there.
func keepsTraces(e, next impl.Eng) bool {
	if len(next.Gs) < len(e.Gs) {
		return false
	}
	for n, g := range e.Gs {
		trace := next.Gs[n].Trace
		if len(trace) < len(g.Trace) || !slices.Equal(trace[:len(g.Trace)], g.Trace) {
			return false
		}
	}
	return true
}

// tryStep holds one step against the chapter's words.
func tryStep(t *testing.T, p impl.Prog, right bool, e impl.Eng, k impl.Pick) bool {
	t.Helper()
	got, d, ok := impl.Step(p, e, k)
	want, deed, there := wantStep(p, right, e, k)
	if ok != there || d != deed || !sameEng(got, want) {
		t.Fatalf("Step of %+v in %+v = %+v, %+v, %v, not %+v, %+v, %v", k, e, got, d, ok, want, deed, there)
	}
	if ok && (!impl.EngOk(p, got) || !keepsTraces(e, got)) {
		t.Fatalf("Step of %+v in %+v: %+v isn't right, or has lost something of a trace", k, e, got)
	}
	return ok
}

// tryRun holds many steps against the chapter's words, and against Step one by one.
func tryRun(t *testing.T, p impl.Prog, right bool, e impl.Eng, l []impl.Pick) []impl.Deed {
	t.Helper()
	got, deeds := impl.Steps(p, e, l)
	if want, there := wantSteps(p, right, e, l); !sameEng(got, want) || !slices.Equal(deeds, there) {
		t.Fatalf("Steps of %v in %+v = %+v, %v, not %+v, %v", l, e, got, deeds, want, there)
	}
	if !impl.EngOk(p, e) {
		return deeds
	}
	last := e
	for at, k := range l {
		next, d, ok := impl.Step(p, last, k)
		if ok != (at < len(deeds)) {
			t.Fatalf("Step of the pick %d of %v in %+v is %v, but there are %d deeds", at, l, e, ok, len(deeds))
		}
		if !ok {
			break
		}
		if d != deeds[at] || !impl.EngOk(p, next) || !keepsTraces(last, next) {
			t.Fatalf("Step of the pick %d of %v in %+v = %+v, %+v, and the deed is %+v", at, l, e, next, d, deeds[at])
		}
		last = next
	}
	if !sameEng(got, last) || !impl.EngOk(p, got) {
		t.Fatalf("Steps of %v in %+v = %+v; step by step it is %+v", l, e, got, last)
	}
	return deeds
}

func isNoStep(p impl.Prog, e impl.Eng) bool {
	for _, k := range []impl.Pick{{}, {G: 1, C: 1}, {G: -1, C: -1}, {G: math.MinInt, C: math.MaxInt}, {G: math.MaxInt, C: math.MinInt}} {
		got, d, ok := impl.Step(p, e, k)
		if ok || d != (impl.Deed{}) || !sameEng(got, impl.Eng{}) {
			return false
		}
	}
	return true
}

// isNothingOfSteps asks with picks and without.
func isNothingOfSteps(p impl.Prog, e impl.Eng) bool {
	for _, l := range [][]impl.Pick{nil, {}, {{}}, {{G: 5, C: 7}}, {{}, {}, {}, {G: -1, C: 2}}} {
		got, deeds := impl.Steps(p, e, l)
		if len(deeds) != 0 || !sameEng(got, impl.Eng{}) {
			return false
		}
	}
	return true
}

func TestStepTypes(t *testing.T) {
	k := impl.Pick(struct {
		G int
		C int
	}{3, 4})
	if k != (impl.Pick{G: 3, C: 4}) {
		t.Errorf("a pick is %+v", k)
	}
	d := impl.Deed(struct {
		G    int
		Op   int
		Obj  int
		Case int
	}{1, 2, 3, 4})
	if d != (impl.Deed{G: 1, Op: 2, Obj: 3, Case: 4}) {
		t.Errorf("a deed is %+v", d)
	}
}

// farInts are right as numbers of things, or not, or far out.
func farInts() []int {
	return []int{math.MinInt, math.MinInt + 1, -1 << 32, -1000, -2, -1, 0, 1, 2, 3, 5, 6, 39, 40, 999, 1000, 1 << 32, 1<<32 + 1, math.MaxInt - 1, math.MaxInt}
}

func TestObjOfTheFifteen(t *testing.T) {
	for _, x := range []struct {
		i    impl.Instr
		want int
	}{
		{impl.Instr{Op: impl.OpHalt}, 0},
		{impl.Instr{Op: impl.OpSet, A: 3, B: 4}, 0},
		{impl.Instr{Op: impl.OpAdd, A: 3, B: 4, C: 5}, 0},
		{impl.Instr{Op: impl.OpSub, A: 3, B: 4, C: 5}, 0},
		{impl.Instr{Op: impl.OpLess, A: 3, B: 4, C: 5}, 0},
		{impl.Instr{Op: impl.OpJump, A: 3}, 0},
		{impl.Instr{Op: impl.OpIf, A: 3, B: 4}, 0},
		{impl.Instr{Op: impl.OpSend, A: 3, B: 4}, 3},
		{impl.Instr{Op: impl.OpSend, A: -1, B: 4}, -1},
		{impl.Instr{Op: impl.OpSend, A: 0, B: 4}, 0},
		{impl.Instr{Op: impl.OpRecv, A: 3, B: 4, C: 5}, 3},
		{impl.Instr{Op: impl.OpRecv, A: -1, B: 4, C: 5}, -1},
		{impl.Instr{Op: impl.OpClose, A: 3}, 3},
		{impl.Instr{Op: impl.OpClose, A: -1}, -1},
		{impl.Instr{Op: impl.OpSelect, A: 3}, 3},
		{impl.Instr{Op: impl.OpLock, A: 3}, 3},
		{impl.Instr{Op: impl.OpUnlock, A: 3}, 3},
		{impl.Instr{Op: impl.OpSpawn, A: 3, B: 4}, 3},
		{impl.Instr{Op: impl.OpPrint, A: 3}, 0},
	} {
		if got := impl.ObjOf(x.i); got != x.want {
			t.Errorf("ObjOf of %+v = %d, not %d", x.i, got, x.want)
		}
	}
}

// Of what isn't right the object is told by the Op and by A as well.
func TestObjOfAnyInstr(t *testing.T) {
	ops := append(farInts(), upTo(20)...)
	for _, op := range ops {
		for _, a := range farInts() {
			for _, other := range []int{0, 7, -7, math.MinInt, math.MaxInt} {
				want := 0
				if op >= impl.OpSend && op <= impl.OpSpawn {
					want = a
				}
				i := impl.Instr{Op: op, A: a, B: other, C: -other}
				if got := impl.ObjOf(i); got != want {
					t.Errorf("ObjOf of %+v = %d, not %d", i, got, want)
				}
			}
		}
	}
}

func TestTurns(t *testing.T) {
	for _, x := range []struct{ n, want int }{
		{math.MinInt, 0}, {math.MinInt + 1, 0}, {-1 << 32, 0}, {-2001, 0}, {-2000, 0}, {-2, 0}, {-1, 0}, {0, 0}, {1, 1}, {2, 2}, {3, 3}, {10, 10}, {999, 999},
		{1999, 1999}, {2000, 2000}, {2001, 2000}, {2002, 2000}, {4000, 2000}, {1 << 32, 2000}, {1<<32 + 1, 2000}, {math.MaxInt - 1, 2000}, {math.MaxInt, 2000},
	} {
		l := impl.Turns(x.n)
		if len(l) != x.want {
			t.Errorf("Turns of %d has %d picks, not %d", x.n, len(l), x.want)
		}
		for i, k := range l {
			if k != (impl.Pick{G: i, C: i}) {
				t.Fatalf("the pick %d of Turns of %d is %+v", i, x.n, k)
			}
		}
	}
	for n := range mostTurned + 2 {
		if got := impl.Turns(n); len(got) != min(n, mostTurned) {
			t.Errorf("Turns of %d has %d picks", n, len(got))
		}
	}
}

func TestTurnsIsNewMemory(t *testing.T) {
	for _, n := range []int{1, 7, 2000, 3000} {
		first, second := impl.Turns(n), impl.Turns(n)
		want := slices.Clone(second)
		spoilList(first, impl.Pick{G: -5})
		spoilList(first[:cap(first)], impl.Pick{G: -6})
		if !slices.Equal(second, want) || !slices.Equal(impl.Turns(n), want) {
			t.Errorf("two answers of Turns of %d share memory", n)
		}
	}
}

// soleEng has g as its only ready goroutine, the number 1, between one that is done, one that waits for ever, and one that is dead.
func soleEng(g impl.Gor) impl.Eng {
	e := plainEng(waitProg())
	e.Gs = []impl.Gor{inState(comer(atHalt), impl.GsDone), g, sleeper(atSendNil), inState(comer(atSend0), impl.GsDead)}
	return e
}

// stepTry is one step of the goroutine 1 of an engine in waitProg: what is done ahead of it, its deed, and what it does.
type stepTry struct {
	what   string
	g      impl.Gor
	before func(e *impl.Eng)
	k      impl.Pick
	d      impl.Deed
	done   func(e *impl.Eng)
}

func tryOneByOne(t *testing.T, l []stepTry) {
	t.Helper()
	for _, x := range l {
		e := soleEng(x.g)
		if x.before != nil {
			x.before(&e)
		}
		if !wantEngOk(waitProg(), true, e) {
			t.Fatalf("%s: %+v isn't right", x.what, e)
		}
		want := copyEng(e)
		x.done(&want)
		got, d, ok := impl.Step(waitProg(), e, x.k)
		if !ok || d != x.d || !sameEng(got, want) {
			t.Errorf("%s: %+v, %+v, %v, not %+v, %+v", x.what, got, d, ok, want, x.d)
		}
		if !impl.EngOk(waitProg(), got) || !keepsTraces(e, got) {
			t.Errorf("%s: %+v isn't right, or has lost something of a trace", x.what, got)
		}
	}
}

func TestStepLocalInstructions(t *testing.T) {
	deed := func(op int) impl.Deed { return impl.Deed{G: 1, Op: op, Obj: 0, Case: impl.NoCase} }
	reg := func(r int, v int) func(e *impl.Eng) { return func(e *impl.Eng) { e.Gs[1].Regs[r] = v } }
	sets := func(r int, v int, pc int) func(e *impl.Eng) {
		return func(e *impl.Eng) { e.Gs[1].Regs[r], e.Gs[1].Pc = v, pc }
	}
	jumps := func(pc int) func(e *impl.Eng) { return func(e *impl.Eng) { e.Gs[1].Pc = pc } }
	halts := func(e *impl.Eng) {
		e.Gs[1].State, e.Gs[1].Trace = impl.GsDone, append(e.Gs[1].Trace, impl.Item{Kind: impl.ItDone})
	}
	tryOneByOne(t, []stepTry{
		{"set", atPlace(0), nil, impl.Pick{}, deed(impl.OpSet), sets(0, 5, 1)},
		{"add", atPlace(1), reg(0, 300), impl.Pick{G: 1}, deed(impl.OpAdd), sets(1, 600, 2)},
		{"add, round", atPlace(1), reg(0, 700), impl.Pick{G: 7, C: 7}, deed(impl.OpAdd), sets(1, 400, 2)},
		{"sub, round", atPlace(2), nil, impl.Pick{G: -1}, deed(impl.OpSub), sets(1, 998, 3)},
		{"sub", atPlace(2), reg(0, 30), impl.Pick{C: -1}, deed(impl.OpSub), sets(1, 27, 3)},
		{"not less", atPlace(3), nil, impl.Pick{}, deed(impl.OpLess), sets(1, 0, 4)},
		{"less", atPlace(3), reg(2, 0), impl.Pick{}, deed(impl.OpLess), sets(1, 1, 4)},
		{"if", atPlace(4), nil, impl.Pick{C: math.MinInt}, deed(impl.OpIf), jumps(0)},
		{"if of 0", atPlace(4), reg(1, 0), impl.Pick{}, deed(impl.OpIf), jumps(5)},
		{"jump", atPlace(13), nil, impl.Pick{}, deed(impl.OpJump), jumps(0)},
		{"halt", atPlace(14), nil, impl.Pick{G: math.MaxInt, C: math.MaxInt}, deed(impl.OpHalt), halts},
		{"halt of another procedure", comer(atHalt), nil, impl.Pick{}, deed(impl.OpHalt), halts},
	})
}

func TestStepAtChannels(t *testing.T) {
	deed := func(op int, obj int) impl.Deed {
		return impl.Deed{G: 1, Op: op, Obj: obj, Case: impl.NoCase}
	}
	waits := func(e *impl.Eng) { e.Gs[1].State = impl.GsWait }
	tryOneByOne(t, []stepTry{
		{"send, waits", atPlace(5), nil, impl.Pick{}, deed(impl.OpSend, 0), func(e *impl.Eng) {
			waits(e)
			e.Chans[0].Sends = []impl.Waiter{{G: 1, Case: -1, Val: 2}}
		}},
		{"send to nil", comer(atSendNil), nil, impl.Pick{}, deed(impl.OpSend, -1), waits},
		{"send", comer(atSend2), nil, impl.Pick{C: 3}, deed(impl.OpSend, 2), func(e *impl.Eng) {
			goes(e, 1, atSend2+1, sentItem(2, 60))
			e.Chans[2].Buf = []int{60}
		}},
		{"send to one that waits", comer(atSend0), func(e *impl.Eng) {
			e.Gs[2] = sleeper(atRecv0)
			e.Chans[0].Recvs = []impl.Waiter{{G: 2, Case: -1}}
		}, impl.Pick{}, deed(impl.OpSend, 0), func(e *impl.Eng) {
			goes(e, 1, atSend0+1, sentItem(0, 10))
			goes(e, 2, atRecv0+1, gotItem(0, 10))
			regs(e, 2, 1, 10, 2, 1)
			e.Chans[0].Recvs = nil
		}},
		{"send, dies", comer(atSend1), func(e *impl.Eng) { e.Chans[1].Closed = true }, impl.Pick{}, deed(impl.OpSend, 1), func(e *impl.Eng) {
			dies(e, 1, impl.WyClosed)
		}},
		{"recv, waits", comer(atRecv2), nil, impl.Pick{}, deed(impl.OpRecv, 2), func(e *impl.Eng) {
			waits(e)
			e.Chans[2].Recvs = []impl.Waiter{{G: 1, Case: -1}}
		}},
		{"recv from nil", comer(atRecvNil), nil, impl.Pick{}, deed(impl.OpRecv, -1), waits},
		{"recv", comer(atRecv1), func(e *impl.Eng) { e.Chans[1].Buf = []int{7, 8} }, impl.Pick{}, deed(impl.OpRecv, 1), func(e *impl.Eng) {
			goes(e, 1, atRecv1+1, gotItem(1, 7))
			regs(e, 1, 1, 7, 2, 1)
			e.Chans[1].Buf = []int{8}
		}},
		{"close", atPlace(7), nil, impl.Pick{}, deed(impl.OpClose, 0), func(e *impl.Eng) {
			goes(e, 1, 8, impl.Item{Kind: impl.ItClosed, Obj: 0})
			e.Chans[0].Closed = true
		}},
		{"close, dies", atPlace(7), func(e *impl.Eng) { e.Chans[0].Closed = true }, impl.Pick{}, deed(impl.OpClose, 0), func(e *impl.Eng) {
			dies(e, 1, impl.WyClosed)
		}},
	})
}

func TestStepAtSelects(t *testing.T) {
	deed := func(sel int, chosen int) impl.Deed {
		return impl.Deed{G: 1, Op: impl.OpSelect, Obj: sel, Case: chosen}
	}
	both := func(e *impl.Eng) { e.Chans[0].Closed = true }
	takesSend := func(e *impl.Eng) {
		goes(e, 1, 2, pickedItem(0, 1), sentItem(1, 40))
		e.Chans[1].Buf = []int{40}
	}
	takesRecv := func(e *impl.Eng) {
		goes(e, 1, 1, pickedItem(0, 0), zeroItem(0))
		regs(e, 1, 1, 0, 2, 0)
	}
	tryOneByOne(t, []stepTry{
		{"one case", comer(atSelect0), nil, impl.Pick{}, deed(0, 1), takesSend},
		{"one case, by any choice", comer(atSelect0), nil, impl.Pick{C: 6}, deed(0, 1), takesSend},
		{"the first of two", comer(atSelect0), both, impl.Pick{}, deed(0, 0), takesRecv},
		{"the second of two", comer(atSelect0), both, impl.Pick{C: 1}, deed(0, 1), takesSend},
		{"behind the second of two", comer(atSelect0), both, impl.Pick{C: 2}, deed(0, 0), takesRecv},
		{"ahead of the first of two", comer(atSelect0), both, impl.Pick{C: -1}, deed(0, 1), takesSend},
		{"the choice isn't the place", comer(atSelect0), both, impl.Pick{G: 1, C: 0}, deed(0, 0), takesRecv},
		{"the place isn't the choice", comer(atSelect0), both, impl.Pick{G: 0, C: 1}, deed(0, 1), takesSend},
		{"the least choice", comer(atSelect0), both, impl.Pick{C: math.MinInt}, deed(0, 0), takesRecv},
		{"the greatest choice", comer(atSelect0), both, impl.Pick{C: math.MaxInt}, deed(0, 1), takesSend},
		{"Else", comer(atSelectElse), func(e *impl.Eng) { e.Chans[2].Buf = []int{3} }, impl.Pick{C: 1}, deed(4, -1), func(e *impl.Eng) {
			goes(e, 1, 1, pickedItem(4, -1))
		}},
		{"Else alone", comer(atElse), nil, impl.Pick{C: 5}, deed(5, -1), func(e *impl.Eng) {
			goes(e, 1, 0, pickedItem(5, -1))
		}},
		{"waits", comer(atSelect2), func(e *impl.Eng) { e.Chans[1].Buf = []int{3, 4} }, impl.Pick{}, deed(2, impl.Waited), func(e *impl.Eng) {
			e.Gs[1].State = impl.GsWait
			e.Chans[0].Recvs = []impl.Waiter{{G: 1, Case: 1}}
			e.Chans[1].Sends = []impl.Waiter{{G: 1, Case: 2, Val: 60}}
		}},
		{"waits at nil channels", comer(atSelectNil), nil, impl.Pick{C: 1}, deed(3, impl.Waited), func(e *impl.Eng) {
			e.Gs[1].State = impl.GsWait
		}},
		{"dies", comer(atSelectElse), func(e *impl.Eng) { e.Chans[2].Closed = true }, impl.Pick{}, deed(4, 1), func(e *impl.Eng) {
			dies(e, 1, impl.WyClosed, pickedItem(4, 1))
		}},
	})
}

func TestStepAtTheOthers(t *testing.T) {
	deed := func(op int, obj int) impl.Deed {
		return impl.Deed{G: 1, Op: op, Obj: obj, Case: impl.NoCase}
	}
	owner := func(mutex int, n int) func(e *impl.Eng) { return func(e *impl.Eng) { e.Mus[mutex].Owner = n } }
	tryOneByOne(t, []stepTry{
		{"lock", comer(atLock1), nil, impl.Pick{}, deed(impl.OpLock, 1), func(e *impl.Eng) {
			goes(e, 1, atLock1+1, lockedItem(1))
			e.Mus[1].Owner = 1
		}},
		{"lock, waits", comer(atLock1), owner(1, 0), impl.Pick{}, deed(impl.OpLock, 1), func(e *impl.Eng) {
			e.Gs[1].State, e.Mus[1].Wait = impl.GsWait, []int{1}
		}},
		{"lock, dies", comer(atLock0), owner(0, 1), impl.Pick{C: 1}, deed(impl.OpLock, 0), func(e *impl.Eng) {
			dies(e, 1, impl.WySelf)
		}},
		{"unlock", atPlace(10), owner(0, 1), impl.Pick{}, deed(impl.OpUnlock, 0), func(e *impl.Eng) {
			goes(e, 1, 11, impl.Item{Kind: impl.ItUnlocked, Obj: 0})
			e.Mus[0].Owner = -1
		}},
		{"unlock for one that waits", atPlace(10), func(e *impl.Eng) {
			e.Gs[2] = sleeper(atLock0)
			e.Mus[0] = impl.Mutex{Owner: 1, Wait: []int{2}}
		}, impl.Pick{}, deed(impl.OpUnlock, 0), func(e *impl.Eng) {
			goes(e, 1, 11, impl.Item{Kind: impl.ItUnlocked, Obj: 0})
			goes(e, 2, atLock0+1, lockedItem(0))
			e.Mus[0] = impl.Mutex{Owner: 2}
		}},
		{"unlock, dies", atPlace(10), nil, impl.Pick{}, deed(impl.OpUnlock, 0), func(e *impl.Eng) {
			dies(e, 1, impl.WyOwner)
		}},
		{"spawn", atPlace(11), nil, impl.Pick{}, deed(impl.OpSpawn, 1), func(e *impl.Eng) {
			goes(e, 1, 12, impl.Item{Kind: impl.ItSpawned, Obj: 1, Val: 4})
			e.Gs = append(e.Gs, impl.Gor{Proc: 1, Regs: []int{1, 0, 0, 0, 0, 0}, State: impl.GsReady})
		}},
		{"spawn, dies", atPlace(11), func(e *impl.Eng) {
			e.Gs = append(e.Gs, slices.Repeat([]impl.Gor{sleeper(atRecvNil)}, 6)...)
		}, impl.Pick{}, deed(impl.OpSpawn, 1), func(e *impl.Eng) {
			dies(e, 1, impl.WyMany)
		}},
		{"print", atPlace(12), nil, impl.Pick{}, deed(impl.OpPrint, 0), func(e *impl.Eng) {
			goes(e, 1, 13, impl.Item{Kind: impl.ItPrinted, Val: 4})
		}},
	})
}

// A nil channel is closed by no goroutine of waitProg.
func TestStepClosesNil(t *testing.T) {
	e := opEng(opCloseNil)
	want := copyEng(e)
	dies(&want, 0, impl.WyNil)
	got, d, ok := impl.Step(opProg(), e, impl.Pick{})
	if !ok || d != (impl.Deed{G: 0, Op: impl.OpClose, Obj: -1, Case: impl.NoCase}) || !sameEng(got, want) {
		t.Errorf("%+v, %+v, %v", got, d, ok)
	}
}

// Each of the fifteen instructions in each state, by either of two goroutines.
func TestStepOfTheFifteen(t *testing.T) {
	p := waitProg()
	for pc := range p.Procs[0].Code {
		for state := range 6 {
			for n := range 2 {
				e := fifteenEng(pc, state, n)
				for _, k := range []impl.Pick{{}, {G: 1}, {G: 2, C: 1}, {G: -1, C: -1}, {G: math.MinInt, C: math.MinInt}, {G: math.MaxInt, C: math.MaxInt}} {
					tryStep(t, p, true, e, k)
					tryRun(t, p, true, e, []impl.Pick{k, {}, k})
				}
			}
		}
	}
}

// restingEng has as many goroutines as rest has letters: r for one that is ready, w for one that waits, e and d for those that have ended.
func restingEng(rest string) impl.Eng {
	e := plainEng(opProg())
	e.Gs = nil
	for n, letter := range rest {
		g := actor(n, opPrint)
		switch letter {
		case 'w':
			g = actor(n, opSendNil)
			g.State = impl.GsWait
		case 'e':
			g = inState(g, impl.GsDone)
		case 'd':
			g = inState(g, impl.GsDead)
		}
		e.Gs = append(e.Gs, g)
	}
	return e
}

func TestStepPicksByTheRest(t *testing.T) {
	for _, x := range []struct {
		rest string
		g    int
		want int
	}{
		{"r", 0, 0}, {"r", 1, 0}, {"r", -1, 0}, {"r", math.MinInt, 0}, {"r", math.MaxInt, 0},
		{"rr", 0, 0}, {"rr", 1, 1}, {"rr", 2, 0}, {"rr", -1, 1}, {"rr", -2, 0}, {"rr", math.MinInt, 0}, {"rr", math.MaxInt, 1},
		{"rrr", 0, 0}, {"rrr", 1, 1}, {"rrr", 2, 2}, {"rrr", 3, 0}, {"rrr", 4, 1}, {"rrr", 5, 2}, {"rrr", 6, 0}, {"rrr", -1, 2}, {"rrr", -2, 1}, {"rrr", -3, 0}, {"rrr", -4, 2}, {"rrr", math.MinInt, 1}, {"rrr", math.MaxInt, 1},
		{"wrerdrw", 0, 1}, {"wrerdrw", 1, 3}, {"wrerdrw", 2, 5}, {"wrerdrw", 3, 1}, {"wrerdrw", 4, 3}, {"wrerdrw", 7, 3}, {"wrerdrw", -1, 5}, {"wrerdrw", -2, 3}, {"wrerdrw", -3, 1}, {"wrerdrw", -4, 5}, {"wrerdrw", 3000, 1}, {"wrerdrw", 3001, 3}, {"wrerdrw", 3002, 5},
		{"dwer", 0, 3}, {"dwer", 3, 3}, {"dwer", -7, 3}, {"rwed", 1, 0}, {"rwed", 3, 0}, {"wwrd", 2, 2}, {"wwrd", math.MinInt, 2},
		{"rrrrrrrrrr", 9, 9}, {"rrrrrrrrrr", 10, 0}, {"rrrrrrrrrr", 11, 1}, {"rrrrrrrrrr", -1, 9}, {"rrrrrrrrrr", -10, 0}, {"rrrrrrrrrr", -11, 9}, {"rrrrrrrrrr", math.MinInt, 2}, {"rrrrrrrrrr", math.MaxInt, 7}, {"rrrrrrrrrr", 1 << 32, 6},
		{"wwwwrwwwwr", 1, 9}, {"wwwwrwwwwr", 4, 4}, {"wwwwrwwwwr", 9, 9}, {"eeeeeeeeer", 0, 9}, {"rddddddddd", 9, 0},
	} {
		e := restingEng(x.rest)
		want := copyEng(e)
		goes(&want, x.want, opPrint+1, impl.Item{Kind: impl.ItPrinted, Val: 100*x.want + 60})
		for _, c := range choices() {
			got, d, ok := impl.Step(opProg(), e, impl.Pick{G: x.g, C: c})
			if !ok || d != (impl.Deed{G: x.want, Op: impl.OpPrint, Obj: 0, Case: impl.NoCase}) || !sameEng(got, want) {
				t.Errorf("%s with the pick %d, %d: %+v, %+v, %v, not the goroutine %d", x.rest, x.g, c, got, d, ok, x.want)
			}
		}
	}
}

// Each set of up to six goroutines may be ready, with others between them that wait or have ended, and picks of all kinds.
func TestStepOfAllReadySets(t *testing.T) {
	p := opProg()
	for size := 1; size <= 6; size++ {
		for bits := range 1 << size {
			var rest []byte
			var ready []int
			for n := range size {
				letter := "wed"[(n+bits)%3]
				if bits>>n&1 != 0 {
					letter = 'r'
					ready = append(ready, n)
				}
				rest = append(rest, letter)
			}
			e := restingEng(string(rest))
			for _, g := range append(choices(), len(ready)-1, len(ready), len(ready)+1, -len(ready), -len(ready)-1) {
				_, d, ok := impl.Step(p, e, impl.Pick{G: g, C: bits})
				if ok != (len(ready) > 0) || ok && d.G != ready[restOf(g, len(ready))] {
					t.Errorf("%s with the pick %d: %+v, %v", rest, g, d, ok)
				}
			}
			tryStep(t, p, true, e, impl.Pick{G: bits, C: size})
		}
	}
}

// The choice of a pick is the one that a select takes, for each set of ready cases.
func TestStepChoosesByTheRest(t *testing.T) {
	for _, other := range []int{-1, 3} {
		p := fourProg(other)
		for bits := range 16 {
			for n := range 2 {
				e := fourEng(bits, n)
				for _, c := range choices() {
					for _, g := range []int{0, 1, -1, 4} {
						k := impl.Pick{G: g, C: c}
						tryStep(t, p, true, e, k)
						_, d, _ := impl.Step(p, e, k)
						if _, chosen := impl.DoShared(p, e, d.G, c); p.Procs[e.Gs[d.G].Proc].Code[e.Gs[d.G].Pc].Op >= impl.OpSend && d.Case != chosen {
							t.Errorf("with the bits %d and the pick %+v: the deed is %+v, and %d was chosen", bits, k, d, chosen)
						}
					}
				}
			}
		}
	}
}

// Where none is ready Step says false, and Steps answers the engine as it is.
func TestStepOfNone(t *testing.T) {
	try := func(what string, p impl.Prog, e impl.Eng) {
		t.Helper()
		if !wantEngOk(p, true, e) || !impl.EngOk(p, e) {
			t.Fatalf("%s: %+v isn't right", what, e)
		}
		if !isNoStep(p, e) {
			t.Errorf("%s: a step is done in %+v", what, e)
		}
		for _, l := range [][]impl.Pick{nil, {}, {{}}, {{G: 3, C: 2}, {}, {G: -1}}, impl.Turns(50)} {
			if got, deeds := impl.Steps(p, e, l); len(deeds) != 0 || !sameEng(got, e) {
				t.Errorf("%s: %+v, %v, not %+v", what, got, deeds, e)
			}
		}
	}
	for _, rest := range []string{"w", "e", "d", "ww", "ee", "dd", "we", "ew", "wd", "dw", "ed", "wwed", "edww", "wwwwwwwwww", "eeeeeeeeee", "dddddddddd", "wedwedwedw"} {
		try(rest, opProg(), restingEng(rest))
	}
	e := sleepyEng()
	e.Gs[0] = inState(e.Gs[0], impl.GsDone)
	try("some wait at each kind of thing", waitProg(), e)
	for _, at := range []int{opSend0, opSend2, opRecv0, opRecv1, opSelect0, opSelect1, opSelectNil, opSelect5, opLock0} {
		e := opEng(opPrint, at, opSendNil)
		e.Gs[0] = inState(e.Gs[0], impl.GsDead)
		e.Mus[0].Owner = 0
		try("one waits", opProg(), e)
	}
}

func TestStepOfWrongEngs(t *testing.T) {
	for pc := range opPrint + 2 {
		right := opEng(pc, opSelect5)
		if isNoStep(opProg(), right) || isNothingOfSteps(opProg(), right) {
			t.Fatalf("at the place %d: nothing is done in %+v", pc, right)
		}
		for _, x := range wrongEngs() {
			e := copyEng(right)
			x.do(&e)
			if !isNoStep(opProg(), e) || !isNothingOfSteps(opProg(), e) {
				t.Errorf("%s: at the place %d something is done", x.what, pc)
			}
		}
	}
	if !isNoStep(opProg(), impl.Eng{}) || !isNothingOfSteps(opProg(), impl.Eng{}) {
		t.Error("in nothing of an engine something is done")
	}
}

func TestStepOfWrongProgs(t *testing.T) {
	try := func(what string, p impl.Prog) {
		t.Helper()
		for pc := range 11 {
			e := plainEng(p)
			e.Gs = []impl.Gor{atPlace(pc), atPlace(pc)}
			for _, e := range []impl.Eng{e, plainEng(p), impl.EngNew(p), {}} {
				if !isNoStep(p, e) || !isNothingOfSteps(p, e) {
					t.Errorf("%s: at the place %d something is done", what, pc)
				}
			}
		}
	}
	for _, x := range wrongChanges() {
		p := fullProg()
		x.do(&p)
		try(x.what, p)
	}
	try("nothing of a program", impl.Prog{})
	none := opProg()
	none.Sels[4].Else = -1
	if !isNoStep(none, opEng(opPrint)) || !isNothingOfSteps(none, opEng(opPrint)) {
		t.Error("a select without a case and without an Else is right")
	}
	if !isNoStep(waitProg(), opEng(opPrint)) || !isNothingOfSteps(waitProg(), opEng(opPrint)) {
		t.Error("the engine of another program is right")
	}
	if isNoStep(fullProg(), plainEng(fullProg())) || isNothingOfSteps(fullProg(), plainEng(fullProg())) {
		t.Error("nothing is done in a program that is right")
	}
}

func deedOf(n int, op int, obj int, chosen int) impl.Deed {
	return impl.Deed{G: n, Op: op, Obj: obj, Case: chosen}
}

// runTry is a run from the beginning: its program, its picks, and all that is done, written out.
type runTry struct {
	text   string
	picks  []impl.Pick
	deeds  []impl.Deed
	states []int
	traces [][]impl.Item
}

func runTries() []runTry {
	no := impl.NoCase
	done := impl.Item{Kind: impl.ItDone}
	spawned := func(n int) impl.Item { return impl.Item{Kind: impl.ItSpawned, Obj: 1, Val: n} }
	printed := func(v int) impl.Item { return impl.Item{Kind: impl.ItPrinted, Val: v} }
	return []runTry{
		{
			"chans 0\nmutexes 0\nproc\nspawn 1 0\nset 0 7\nsend 0 0\nhalt\nproc\nrecv 0 1 2\nprint 1\nhalt\n",
			impl.Turns(20),
			[]impl.Deed{deedOf(0, impl.OpSpawn, 1, no), deedOf(1, impl.OpRecv, 0, no), deedOf(0, impl.OpSet, 0, no), deedOf(0, impl.OpSend, 0, no), deedOf(0, impl.OpHalt, 0, no), deedOf(1, impl.OpPrint, 0, no), deedOf(1, impl.OpHalt, 0, no)},
			[]int{impl.GsDone, impl.GsDone},
			[][]impl.Item{{spawned(1), sentItem(0, 7), done}, {gotItem(0, 7), printed(7), done}},
		},
		{
			"chans 0\nmutexes 0\nproc\nspawn 1 0\nset 0 7\nsend 0 0\nhalt\nproc\nrecv 0 1 2\nprint 1\nhalt\n",
			[]impl.Pick{{}, {}, {}, {}, {}, {}, {}, {}, {}},
			[]impl.Deed{deedOf(0, impl.OpSpawn, 1, no), deedOf(0, impl.OpSet, 0, no), deedOf(0, impl.OpSend, 0, no), deedOf(1, impl.OpRecv, 0, no), deedOf(0, impl.OpHalt, 0, no), deedOf(1, impl.OpPrint, 0, no), deedOf(1, impl.OpHalt, 0, no)},
			[]int{impl.GsDone, impl.GsDone},
			[][]impl.Item{{spawned(1), sentItem(0, 7), done}, {gotItem(0, 7), printed(7), done}},
		},
		{
			"chans 1 1\nmutexes 0\nselect - send:0:1:1 recv:1:2:3:2\nproc\nselect 0\nclose 1\nselect 0\nhalt\n",
			[]impl.Pick{{C: 1}, {C: 5}, {C: 9}, {C: 3}, {C: 2}},
			[]impl.Deed{deedOf(0, impl.OpSelect, 0, 0), deedOf(0, impl.OpClose, 1, no), deedOf(0, impl.OpSelect, 0, 1), deedOf(0, impl.OpSelect, 0, 1), deedOf(0, impl.OpSelect, 0, 1)},
			[]int{impl.GsReady},
			[][]impl.Item{{pickedItem(0, 0), sentItem(0, 0), {Kind: impl.ItClosed, Obj: 1}, pickedItem(0, 1), zeroItem(1), pickedItem(0, 1), zeroItem(1), pickedItem(0, 1), zeroItem(1)}},
		},
		{
			"chans\nmutexes 1\nproc\nlock 0\nspawn 1 0\nlock 0\nhalt\nproc\nlock 0\nhalt\n",
			[]impl.Pick{{}, {}, {G: 1}, {G: 1}, {}, {}},
			[]impl.Deed{deedOf(0, impl.OpLock, 0, no), deedOf(0, impl.OpSpawn, 1, no), deedOf(1, impl.OpLock, 0, no), deedOf(0, impl.OpLock, 0, no)},
			[]int{impl.GsDead, impl.GsWait},
			[][]impl.Item{{lockedItem(0), spawned(1), {Kind: impl.ItDead, Val: impl.WySelf}}, nil},
		},
		{
			"chans 0\nmutexes 0\nselect 2 recv:0:1:2:1\nproc\nselect 0\nhalt\njump 0\n",
			impl.Turns(5),
			[]impl.Deed{deedOf(0, impl.OpSelect, 0, -1), deedOf(0, impl.OpJump, 0, no), deedOf(0, impl.OpSelect, 0, -1), deedOf(0, impl.OpJump, 0, no), deedOf(0, impl.OpSelect, 0, -1)},
			[]int{impl.GsReady},
			[][]impl.Item{{pickedItem(0, -1), pickedItem(0, -1), pickedItem(0, -1)}},
		},
		{
			"chans 0\nmutexes 0\nselect - recv:0:1:2:1 recv:nil:1:2:1\nproc\nselect 0\nhalt\n",
			impl.Turns(5),
			[]impl.Deed{deedOf(0, impl.OpSelect, 0, impl.Waited)},
			[]int{impl.GsWait},
			[][]impl.Item{nil},
		},
		{
			"chans\nmutexes 0\nproc\nhalt\n",
			[]impl.Pick{{G: math.MinInt, C: math.MinInt}, {}},
			[]impl.Deed{deedOf(0, impl.OpHalt, 0, no)},
			[]int{impl.GsDone},
			[][]impl.Item{{done}},
		},
		{"chans\nmutexes 0\nproc\nhalt\n", nil, nil, []int{impl.GsReady}, [][]impl.Item{nil}},
	}
}

func TestStepsOneByOne(t *testing.T) {
	for _, x := range runTries() {
		p, code := impl.TextProg(x.text)
		if code != 0 {
			t.Fatalf("%q isn't read: %d", x.text, code)
		}
		e, deeds := impl.Steps(p, impl.EngNew(p), x.picks)
		if !slices.Equal(deeds, x.deeds) {
			t.Errorf("%q: %v is done, not %v", x.text, deeds, x.deeds)
		}
		if len(e.Gs) != len(x.states) {
			t.Fatalf("%q: %+v", x.text, e)
		}
		for n, g := range e.Gs {
			if g.State != x.states[n] || !slices.Equal(g.Trace, x.traces[n]) {
				t.Errorf("%q: the goroutine %d is %+v", x.text, n, g)
			}
		}
		tryRun(t, p, true, impl.EngNew(p), x.picks)
	}
}

// Picks behind the one at which none is ready do nothing, however many there are.
func TestStepsStop(t *testing.T) {
	for _, x := range []struct {
		text string
		most int
	}{
		{"chans\nmutexes 0\nproc\nhalt\n", 1},
		{"chans\nmutexes 0\nproc\nset 0 1\nprint 0\nhalt\n", 3},
		{"chans 0\nmutexes 0\nproc\nrecv 0 1 2\nhalt\n", 1},
		{"chans\nmutexes 0\nproc\nset 1 5\nclose nil\nhalt\n", 2},
		{"chans\nmutexes 0\nproc\nspawn 1 0\nspawn 1 0\nhalt\nproc\nprint 0\nhalt\n", 7},
		{"chans\nmutexes 0\nproc\njump 0\n", math.MaxInt},
	} {
		p, _ := impl.TextProg(x.text)
		for size := range 12 {
			for _, k := range []impl.Pick{{}, {G: -1, C: 2}, {G: math.MaxInt}} {
				l := slices.Repeat([]impl.Pick{k}, size)
				e, deeds := impl.Steps(p, impl.EngNew(p), l)
				if len(deeds) != min(size, x.most) {
					t.Errorf("%q with %d picks: %d deeds, not %d", x.text, size, len(deeds), min(size, x.most))
				}
				if _, _, ok := impl.Step(p, e, k); ok != (size < x.most) {
					t.Errorf("%q behind %d picks: another step is %v", x.text, size, ok)
				}
				if got, _ := impl.Steps(p, impl.EngNew(p), l[:len(deeds)]); !sameEng(got, e) {
					t.Errorf("%q with %d picks: %+v, not %+v", x.text, size, e, got)
				}
			}
		}
	}
}

// anyPick is small most of the time, and far out at others.
func anyPick(roll func(int) int) impl.Pick {
	far := farInts()
	k := impl.Pick{G: roll(25) - 5, C: roll(25) - 5}
	if roll(6) == 0 {
		k.G = far[roll(len(far))]
	}
	if roll(6) == 0 {
		k.C = far[roll(len(far))]
	}
	return k
}

func anyPicks(roll func(int) int, size int) []impl.Pick {
	var l []impl.Pick
	for range size {
		l = append(l, anyPick(roll))
	}
	return l
}

// busyProg is a right program with little that ends it early, so that its goroutines meet.
func busyProg(roll func(int) int) impl.Prog {
	p := anyProg(roll)
	for at := range p.Procs {
		code := p.Procs[at].Code
		for pc, i := range code[:len(code)-1] {
			if i.Op == impl.OpHalt || i.Op == impl.OpClose && roll(3) > 0 || i.Op == impl.OpUnlock && roll(3) > 0 {
				code[pc] = impl.Instr{Op: impl.OpSpawn, A: roll(len(p.Procs)), B: roll(6)}
			}
		}
	}
	return p
}

// stepProg is one of many kinds.
func stepProg(roll func(int) int, round int) impl.Prog {
	switch round % 5 {
	case 0:
		p := opProg()
		p.Procs[0] = p.Procs[1]
		return p
	case 1:
		return waitProg()
	case 2:
		return fourProg(roll(5) - 1)
	case 3:
		return anyProg(roll)
	}
	return busyProg(roll)
}

func TestStepOfAnyEngs(t *testing.T) {
	roll := dice()
	done, still, wrong := 0, 0, 0
	met := map[impl.Deed]int{}
	for round := range 6000 {
		p := stepProg(roll, round)
		e := anyEng(roll, p)
		if roll(6) == 0 {
			e = spoilt(roll, e)
		}
		right := wantEngOk(p, true, e)
		for range 3 {
			k := anyPick(roll)
			if tryStep(t, p, true, e, k) {
				done++
				_, d, _ := impl.Step(p, e, k)
				met[impl.Deed{Op: d.Op, Case: d.Case}]++
			} else if right {
				still++
			} else {
				wrong++
			}
		}
	}
	if done < 5000 || still < 100 || wrong < 300 {
		t.Errorf("%d steps were done; in %d none was ready, and %d engines were wrong", done, still, wrong)
	}
	for op := 1; op <= 15; op++ {
		if op != impl.OpSelect && met[impl.Deed{Op: op, Case: impl.NoCase}] < 20 {
			t.Errorf("%s was done %d times", impl.OpWord(op), met[impl.Deed{Op: op, Case: impl.NoCase}])
		}
	}
	for chosen := impl.Waited; chosen < 4; chosen++ {
		if d := (impl.Deed{Op: impl.OpSelect, Case: chosen}); chosen != impl.NoCase && met[d] < 20 {
			t.Errorf("%d was chosen %d times", chosen, met[d])
		}
	}
}

func TestStepsOfAnyRuns(t *testing.T) {
	roll := dice()
	steps, ends := 0, 0
	for round := range 700 {
		p := stepProg(roll, round)
		e := impl.EngNew(p)
		if round%2 == 0 {
			e = anyEng(roll, p)
		}
		if round%10 == 0 {
			e = spoilt(roll, e)
		}
		l := anyPicks(roll, roll(60))
		deeds := tryRun(t, p, true, e, l)
		steps += len(deeds)
		if impl.EngOk(p, e) && len(deeds) < len(l) {
			ends++
		}
	}
	if steps < 5000 || ends < 50 {
		t.Errorf("only %d steps, and %d runs ended ahead of their picks", steps, ends)
	}
}

// Steps in two parts are the same as at once, wherever they are parted.
func TestStepsInParts(t *testing.T) {
	roll := dice()
	for round := range 600 {
		p := stepProg(roll, round)
		e := anyEng(roll, p)
		l := anyPicks(roll, roll(50))
		want, all := impl.Steps(p, e, l)
		at := roll(len(l) + 1)
		half, first := impl.Steps(p, e, l[:at])
		got, second := impl.Steps(p, half, l[at:])
		if !sameEng(got, want) || !slices.Equal(slices.Concat(first, second), all) {
			t.Fatalf("Steps of %v in %+v, parted at %d: %+v, %v, %v, not %+v, %v", l, e, at, got, first, second, want, all)
		}
	}
}

// As many as are ready and as many cases as there are, from one to ten, all go into 2520: picks that differ by it do the same.
func TestStepsCountByTheRest(t *testing.T) {
	roll := dice()
	for round := range 400 {
		p := stepProg(roll, round)
		e := anyEng(roll, p)
		l := anyPicks(roll, 40)
		for at := range l {
			l[at] = impl.Pick{G: roll(20), C: roll(20)}
		}
		want, all := impl.Steps(p, e, l)
		for at := range l {
			l[at].G += 2520 * (roll(2001) - 1000)
			l[at].C += 2520 * (roll(2001) - 1000)
		}
		if got, deeds := impl.Steps(p, e, l); !sameEng(got, want) || !slices.Equal(deeds, all) {
			t.Fatalf("Steps of %v in %+v = %+v, %v, not %+v, %v", l, e, got, deeds, want, all)
		}
	}
}

// Burning the local steps of one goroutine is stepping, and then it halts, or does its next shared instruction.
func TestStepsAreBurning(t *testing.T) {
	roll := dice()
	burnt, shared := 0, 0
	for range 1500 {
		p := anyLocalProg(roll)
		e := impl.EngNew(p)
		most := roll(60)
		want, n := impl.Burn(p, e.Gs[0], most)
		got, deeds := impl.Steps(p, e, anyPicks(roll, n))
		if len(deeds) != n || len(got.Gs) != 1 || !sameGor(got.Gs[0], want) {
			t.Fatalf("%d steps of %+v: %+v, %v, but burnt %+v", n, e, got, deeds, want)
		}
		for _, d := range deeds {
			if impl.Shared(d.Op) || d.G != 0 || d.Obj != 0 || d.Case != impl.NoCase {
				t.Fatalf("a local step is told as %+v", d)
			}
		}
		burnt += n
		if i, ok := impl.NextShared(p, e.Gs[0]); ok && n < most {
			_, d, _ := impl.Step(p, got, impl.Pick{})
			if d.Op != i.Op || d.Obj != impl.ObjOf(i) {
				t.Fatalf("%+v comes next, but the deed is %+v", i, d)
			}
			shared++
		}
	}
	if burnt < 5000 || shared < 100 {
		t.Errorf("%d steps were burnt, and %d came to a shared instruction", burnt, shared)
	}
}

// A step of one goroutine that is local leaves all others as they are.
func TestStepLocalLeavesOthers(t *testing.T) {
	roll := dice()
	done := 0
	for round := range 2000 {
		p := stepProg(roll, round)
		e := anyEng(roll, p)
		got, d, ok := impl.Step(p, e, anyPick(roll))
		if !ok || impl.Shared(d.Op) {
			continue
		}
		done++
		want := copyEng(e)
		want.Gs[d.G], ok = impl.StepLocal(p, e.Gs[d.G])
		if !ok || !sameEng(got, want) {
			t.Fatalf("the deed %+v in %+v: %+v, not %+v", d, e, got, want)
		}
	}
	if done < 200 {
		t.Errorf("only %d local steps", done)
	}
}

// A run of any length is done, and its traces are kept whole.
func TestStepsOfLongRuns(t *testing.T) {
	p, _ := impl.TextProg("chans 1\nmutexes 0\nproc\nspawn 1 0\nrecv 0 1 2\nprint 1\njump 1\nproc\nset 2 1\nadd 1 1 2\nsend 0 1\njump 1\n")
	for _, size := range []int{0, 1, 2000, 2001, 5000, 40000} {
		var l []impl.Pick
		for at := range size {
			l = append(l, impl.Pick{G: at * at / 7, C: -at})
		}
		e, deeds := impl.Steps(p, impl.EngNew(p), l)
		if len(deeds) != size || !impl.EngOk(p, e) {
			t.Fatalf("with %d picks: %d deeds", size, len(deeds))
		}
		if size < 2000 {
			continue
		}
		var printed, received []int
		for _, i := range e.Gs[0].Trace {
			switch i.Kind {
			case impl.ItPrinted:
				printed = append(printed, i.Val)
			case impl.ItGot:
				received = append(received, i.Val)
			}
		}
		for at, v := range received {
			if v != (at+1)%1000 || at < len(printed) && printed[at] != v {
				t.Fatalf("with %d picks: %v was received, %v printed", size, received, printed)
			}
		}
		if len(received) < size/10 || len(received)-len(printed) > 1 {
			t.Errorf("with %d picks: %d were received, and %d printed", size, len(received), len(printed))
		}
	}
}

// stepAnswer is what one call of the layer answers; what isn't answered is left zero.
type stepAnswer struct {
	e     impl.Eng
	deeds []impl.Deed
	ok    bool
}

func sameStep(a, b stepAnswer) bool {
	return sameEng(a.e, b.e) && slices.Equal(a.deeds, b.deeds) && a.ok == b.ok
}

func copyStep(x stepAnswer) stepAnswer {
	return stepAnswer{copyEng(x.e), slices.Clone(x.deeds), x.ok}
}

type stepCall struct {
	what  string
	picks []impl.Pick
	call  func(p impl.Prog, e impl.Eng, l []impl.Pick) stepAnswer
}

// stepCalls are Step with the first pick, and Steps with all of them.
func stepCalls() []stepCall {
	var l []stepCall
	for _, k := range []impl.Pick{{}, {G: 1, C: 1}, {G: -1, C: 3}} {
		l = append(l, stepCall{"Step", []impl.Pick{k}, func(p impl.Prog, e impl.Eng, l []impl.Pick) stepAnswer {
			next, d, ok := impl.Step(p, e, l[0])
			return stepAnswer{next, []impl.Deed{d}, ok}
		}})
	}
	for _, size := range []int{0, 1, 4, 15} {
		l = append(l, stepCall{"Steps", impl.Turns(size), func(p impl.Prog, e impl.Eng, l []impl.Pick) stepAnswer {
			next, deeds := impl.Steps(p, e, l)
			return stepAnswer{e: next, deeds: deeds}
		}})
	}
	return l
}

func TestStepLeavesArguments(t *testing.T) {
	mark := impl.Pick{G: 555, C: -555}
	for _, e := range opEngs() {
		for _, x := range stepCalls() {
			for _, p := range []impl.Prog{waitProg(), fullProg(), {}} {
				kept := copyProg(p)
				d, same := roomyEng(e)
				l, samePicks := inRoom(x.picks, mark, func(a, b impl.Pick) bool { return a == b })
				x.call(p, d, l)
				if !same() || !samePicks() || !slices.Equal(l, x.picks) || !sameProg(p, kept) {
					t.Fatalf("%s changes %+v, %+v or %v", x.what, e, p, x.picks)
				}
			}
		}
	}
}

func TestStepAnswersAreNewMemory(t *testing.T) {
	for _, e := range opEngs() {
		for _, x := range stepCalls() {
			p, l := waitProg(), slices.Clone(x.picks)
			want := copyStep(x.call(waitProg(), e, x.picks))
			d, same := roomyEng(e)
			first, second := x.call(p, d, l), x.call(p, d, l)
			spoilEng(first.e)
			spoilList(first.deeds, impl.Deed{G: 555})
			if !same() || !sameProg(p, waitProg()) || !slices.Equal(l, x.picks) {
				t.Fatalf("%s of %+v: the answer shares memory with an argument", x.what, e)
			}
			if !sameStep(second, want) {
				t.Fatalf("%s of %+v: two answers share memory", x.what, e)
			}
			spoilEng(d)
			spoilProg(p)
			spoilList(l, impl.Pick{G: 555})
			if !sameStep(second, want) {
				t.Fatalf("%s of %+v: the answer changes with an argument", x.what, e)
			}
		}
	}
}

// What is joined to one list of an answer is seen in no other one.
func TestStepListsAreApart(t *testing.T) {
	for _, e := range opEngs() {
		for _, x := range stepCalls() {
			answer := x.call(waitProg(), e, x.picks)
			for k := range grown(&answer.e, -1) {
				got := x.call(waitProg(), e, x.picks)
				want := copyStep(got)
				grown(&got.e, k)
				grown(&want.e, k)
				got.deeds, want.deeds = append(got.deeds, impl.Deed{G: 555}), append(want.deeds, impl.Deed{G: 555})
				if !sameStep(got, want) {
					t.Fatalf("%s of %+v: %+v, not %+v", x.what, e, got, want)
				}
			}
		}
	}
}

func TestStepOfNilAndEmptyLists(t *testing.T) {
	bare := impl.Prog{Procs: []impl.Proc{{Code: []impl.Instr{{Op: impl.OpSend, A: -1}, {Op: impl.OpHalt}}}}}
	other := impl.Prog{Sels: []impl.Select{{Else: 1}}, Procs: []impl.Proc{{Code: []impl.Instr{{Op: impl.OpSelect}, {Op: impl.OpHalt}}}}}
	for _, p := range []impl.Prog{waitProg(), bare, other, {Procs: []impl.Proc{{}}}, {}} {
		for _, e := range append(opEngs(), plainEng(bare), plainEng(other)) {
			for _, x := range stepCalls() {
				want := x.call(p, e, x.picks)
				if got := x.call(turnedProg(p), turnedEng(e), turned(x.picks)); !sameStep(got, want) {
					t.Fatalf("%s of %+v: %+v with nil and empty lists exchanged, not %+v", x.what, e, got, want)
				}
			}
		}
	}
}

// One call leaves nothing behind for the next one, and the same is answered each time.
func TestStepKeepsNothing(t *testing.T) {
	all := opEngs()
	for at, e := range all {
		for _, x := range stepCalls() {
			want := copyStep(x.call(waitProg(), e, x.picks))
			for _, y := range stepCalls() {
				y.call(fullProg(), all[(at+1)%len(all)], y.picks)
				y.call(waitProg(), sleepyEng(), y.picks)
			}
			impl.Turns(7)
			for range 3 {
				if got := x.call(waitProg(), e, x.picks); !sameStep(got, want) {
					t.Fatalf("%s of %+v: %+v behind other calls, not %+v", x.what, e, got, want)
				}
			}
		}
	}
	for _, n := range []int{3, 0, 5, -1, 2000, 2} {
		if got := len(impl.Turns(n)); got != max(n, 0) {
			t.Errorf("Turns of %d has %d picks behind other calls", n, got)
		}
	}
}
