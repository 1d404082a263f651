package tests

import (
	"math"
	"slices"
	"testing"

	"loop.example/g00679/impl"
)

// opProg has in its procedure 1 all kinds of shared instructions; no two cases of its selects go on at the same place.
func opProg() impl.Prog {
	code := []impl.Instr{
		{Op: impl.OpSend, A: 0, B: 1},
		{Op: impl.OpSend, A: 1, B: 3},
		{Op: impl.OpSend, A: 2, B: 5},
		{Op: impl.OpSend, A: -1, B: 2},
		{Op: impl.OpRecv, A: 0, B: 1, C: 2},
		{Op: impl.OpRecv, A: 1, B: 4, C: 3},
		{Op: impl.OpRecv, A: 2, B: 5, C: 5},
		{Op: impl.OpRecv, A: -1, B: 0, C: 1},
		{Op: impl.OpClose, A: 0},
		{Op: impl.OpClose, A: 1},
		{Op: impl.OpClose, A: 2},
		{Op: impl.OpClose, A: -1},
		{Op: impl.OpSelect, A: 0},
		{Op: impl.OpSelect, A: 1},
		{Op: impl.OpSelect, A: 2},
		{Op: impl.OpSelect, A: 3},
		{Op: impl.OpSelect, A: 4},
		{Op: impl.OpSelect, A: 5},
		{Op: impl.OpLock, A: 0},
		{Op: impl.OpLock, A: 1},
		{Op: impl.OpUnlock, A: 0},
		{Op: impl.OpUnlock, A: 1},
		{Op: impl.OpSpawn, A: 0, B: 2},
		{Op: impl.OpSpawn, A: 1, B: 4},
		{Op: impl.OpPrint, A: 5},
	}
	for len(code) < 39 {
		code = append(code, impl.Instr{Op: impl.OpSet, A: 1, B: 7})
	}
	code = append(code, impl.Instr{Op: impl.OpHalt})
	return impl.Prog{
		Caps: []int{0, 2, 1},
		Mus:  2,
		Sels: []impl.Select{
			{Cases: []impl.Case{{Chan: 0, Reg: 1, Ok: 2, To: 31}, {Send: true, Chan: 1, Reg: 3, To: 32}, {Chan: 2, Reg: 4, Ok: 4, To: 33}, {Send: true, Chan: -1, Reg: 5, To: 34}}, Else: -1},
			{Cases: []impl.Case{{Send: true, Chan: 0, Reg: 4, To: 35}, {Chan: 1, Reg: 5, Ok: 0, To: 36}, {Send: true, Chan: 2, Reg: 0, To: 37}}, Else: -1},
			{Cases: []impl.Case{{Chan: -1, Reg: 1, Ok: 2, To: 25}, {Send: true, Chan: -1, Reg: 3, To: 26}}, Else: -1},
			{Cases: []impl.Case{{Chan: 0, Reg: 3, Ok: 5, To: 38}, {Send: true, Chan: 2, Reg: 1, To: 39}}, Else: 30},
			{Else: 29},
			{Cases: []impl.Case{{Chan: -1, Reg: 2, Ok: 1, To: 24}, {Chan: 1, Reg: 0, Ok: 1, To: 28}, {Send: true, Chan: 0, Reg: 2, To: 27}}, Else: -1},
		},
		Procs: []impl.Proc{codeOf(3), {Code: code}},
	}
}

// The places of the procedure 1 of opProg.
const (
	opSend0 = iota
	opSend1
	opSend2
	opSendNil
	opRecv0
	opRecv1
	opRecv2
	opRecvNil
	opClose0
	opClose1
	opClose2
	opCloseNil
	opSelect0
	opSelect1
	opSelectNil
	opSelectElse
	opElse
	opSelect5
	opLock0
	opLock1
	opUnlock0
	opUnlock1
	opSpawn0
	opSpawn1
	opPrint
	opSet
)

// actor is ready at a place of the procedure 1 of opProg. No two registers of no two actors are alike.
func actor(n int, pc int) impl.Gor {
	g := impl.Gor{Proc: 1, Pc: pc, State: impl.GsReady, Trace: []impl.Item{{Kind: impl.ItPrinted, Val: n}}}
	for k := range 6 {
		g.Regs = append(g.Regs, 100*n+10*(k+1))
	}
	return g
}

// opEng has the goroutine 0 ready at a place; the others wait, and came in this order.
func opEng(pc int, asleep ...int) impl.Eng {
	e := plainEng(opProg())
	e.Gs = []impl.Gor{actor(0, pc)}
	for k, at := range asleep {
		g := actor(k+1, at)
		g.State = impl.GsWait
		e.Gs = append(e.Gs, g)
		for _, x := range wantPlaces(opProg(), true, g, k+1) {
			stand(func(n int) int { return n - 1 }, &e, x)
		}
	}
	for k, c := range e.Chans {
		if len(c.Sends) > 0 {
			e.Chans[k].Buf = []int{901, 902}[:c.Cap]
		}
	}
	return e
}

// What is done to one goroutine of an engine: it goes on at a place, or dies there, having told these.
func goes(e *impl.Eng, n int, to int, items ...impl.Item) {
	g := &e.Gs[n]
	g.Pc, g.State, g.Trace = to, impl.GsReady, append(g.Trace, items...)
}

func dies(e *impl.Eng, n int, why int, items ...impl.Item) {
	g := &e.Gs[n]
	g.State, g.Trace = impl.GsDead, append(append(g.Trace, items...), impl.Item{Kind: impl.ItDead, Val: why})
}

func regs(e *impl.Eng, n int, r int, v int, ok int, was int) {
	e.Gs[n].Regs[r] = v
	e.Gs[n].Regs[ok] = was
}

func sentItem(ch int, v int) impl.Item { return impl.Item{Kind: impl.ItSent, Obj: ch, Val: v} }

func gotItem(ch int, v int) impl.Item {
	return impl.Item{Kind: impl.ItGot, Obj: ch, Val: v, Ok: true}
}

func zeroItem(ch int) impl.Item { return impl.Item{Kind: impl.ItGot, Obj: ch} }

func pickedItem(sel int, number int) impl.Item {
	return impl.Item{Kind: impl.ItPicked, Obj: sel, Val: number}
}

func lockedItem(mutex int) impl.Item { return impl.Item{Kind: impl.ItLocked, Obj: mutex} }

// opDeed is one step of the goroutine 0, of what is done ahead of it, and of what it does.
type opDeed struct {
	what   string
	e      impl.Eng
	before func(e *impl.Eng)
	choice int
	done   func(e *impl.Eng)
	chosen int
}

func tryDeeds(t *testing.T, l []opDeed) {
	t.Helper()
	for _, x := range l {
		e := copyEng(x.e)
		if x.before != nil {
			x.before(&e)
		}
		if !wantEngOk(opProg(), true, e) {
			t.Fatalf("%s: %+v isn't right", x.what, e)
		}
		want := copyEng(e)
		x.done(&want)
		got, chosen := impl.DoShared(opProg(), e, 0, x.choice)
		if !sameEng(got, want) {
			t.Errorf("%s: %+v, not %+v", x.what, got, want)
		}
		if chosen != x.chosen {
			t.Errorf("%s: %d was chosen, not %d", x.what, chosen, x.chosen)
		}
		if !impl.EngOk(opProg(), got) {
			t.Errorf("%s: %+v isn't right", x.what, got)
		}
	}
}

// waitsIn is the goroutine 0 behind all others in these lists.
func waitsIn(e *impl.Eng, places ...impl.Place) {
	e.Gs[0].State = impl.GsWait
	for _, x := range places {
		x.W.G = 0
		stand(func(n int) int { return n - 1 }, e, x)
	}
}

func sendPlace(ch int, number int, v int) impl.Place {
	return impl.Place{Obj: ch, Send: true, W: impl.Waiter{Case: number, Val: v}}
}

func recvPlace(ch int, number int) impl.Place {
	return impl.Place{Obj: ch, W: impl.Waiter{Case: number}}
}

func TestOpConstants(t *testing.T) {
	if impl.NoCase != -2 || impl.Waited != -3 {
		t.Errorf("NoCase is %d and Waited is %d", impl.NoCase, impl.Waited)
	}
}

func TestDoSend(t *testing.T) {
	no := impl.NoCase
	tryDeeds(t, []opDeed{
		{"nil", opEng(opSendNil), nil, 0, func(e *impl.Eng) { waitsIn(e) }, no},
		{"without room", opEng(opSend0), nil, 0, func(e *impl.Eng) { waitsIn(e, sendPlace(0, -1, 20)) }, no},
		{"without room, behind one that sends", opEng(opSend0, opSend0), nil, 0, func(e *impl.Eng) { waitsIn(e, sendPlace(0, -1, 20)) }, no},
		{"without room, behind several", opEng(opSend0, opSend0, opSelect1, opSend0, opSelect5), nil, 0, func(e *impl.Eng) { waitsIn(e, sendPlace(0, -1, 20)) }, no},
		{"without room, closed", opEng(opSend0), func(e *impl.Eng) { e.Chans[0].Closed = true }, 0, func(e *impl.Eng) { dies(e, 0, impl.WyClosed) }, no},
		{"without room, one receives", opEng(opSend0, opRecv0), nil, 0, func(e *impl.Eng) {
			goes(e, 0, opSend0+1, sentItem(0, 20))
			goes(e, 1, opRecv0+1, gotItem(0, 20))
			regs(e, 1, 1, 20, 2, 1)
			e.Chans[0].Recvs = nil
		}, no},
		{"without room, several receive", opEng(opSend0, opRecv0, opRecv0, opSelect0), nil, 0, func(e *impl.Eng) {
			goes(e, 0, opSend0+1, sentItem(0, 20))
			goes(e, 1, opRecv0+1, gotItem(0, 20))
			regs(e, 1, 1, 20, 2, 1)
			e.Chans[0].Recvs = e.Chans[0].Recvs[1:]
		}, no},
		{"without room, one receives by a select", opEng(opSend0, opSelect0), nil, 0, func(e *impl.Eng) {
			goes(e, 0, opSend0+1, sentItem(0, 20))
			goes(e, 1, 31, pickedItem(0, 0), gotItem(0, 20))
			regs(e, 1, 1, 20, 2, 1)
			e.Chans[0].Recvs, e.Chans[1].Sends, e.Chans[2].Recvs = nil, nil, nil
		}, no},
		{"without room, several receive, the first one by a select", opEng(opSend0, opSelect0, opRecv0, opSend1, opRecv2, opSelect0), nil, 0, func(e *impl.Eng) {
			goes(e, 0, opSend0+1, sentItem(0, 20))
			goes(e, 1, 31, pickedItem(0, 0), gotItem(0, 20))
			regs(e, 1, 1, 20, 2, 1)
			e.Chans[0].Recvs = []impl.Waiter{{G: 2, Case: -1}, {G: 5, Case: 0}}
			e.Chans[1].Sends = []impl.Waiter{{G: 3, Case: -1, Val: 340}, {G: 5, Case: 1, Val: 540}}
			e.Chans[2].Recvs = []impl.Waiter{{G: 4, Case: -1}, {G: 5, Case: 2}}
		}, no},
		{"empty", opEng(opSend1), nil, 0, func(e *impl.Eng) {
			goes(e, 0, opSend1+1, sentItem(1, 40))
			e.Chans[1].Buf = []int{40}
		}, no},
		{"half full", opEng(opSend1), func(e *impl.Eng) { e.Chans[1].Buf = []int{903} }, 0, func(e *impl.Eng) {
			goes(e, 0, opSend1+1, sentItem(1, 40))
			e.Chans[1].Buf = []int{903, 40}
		}, no},
		{"full", opEng(opSend1), func(e *impl.Eng) { e.Chans[1].Buf = []int{903, 904} }, 0, func(e *impl.Eng) { waitsIn(e, sendPlace(1, -1, 40)) }, no},
		{"full, behind one that sends by a select", opEng(opSend1, opSelect0), nil, 0, func(e *impl.Eng) { waitsIn(e, sendPlace(1, -1, 40)) }, no},
		{"empty, one receives", opEng(opSend1, opRecv1), nil, 0, func(e *impl.Eng) {
			goes(e, 0, opSend1+1, sentItem(1, 40))
			goes(e, 1, opRecv1+1, gotItem(1, 40))
			regs(e, 1, 4, 40, 3, 1)
			e.Chans[1].Recvs = nil
		}, no},
		{"empty, one receives by a select behind a nil case", opEng(opSend1, opSelect5, opSelect1), nil, 0, func(e *impl.Eng) {
			goes(e, 0, opSend1+1, sentItem(1, 40))
			goes(e, 1, 28, pickedItem(5, 1), gotItem(1, 40))
			regs(e, 1, 0, 40, 1, 1)
			e.Chans[1].Recvs = []impl.Waiter{{G: 2, Case: 1}}
			e.Chans[0].Sends = []impl.Waiter{{G: 2, Case: 0, Val: 250}}
		}, no},
		{"closed with a value", opEng(opSend1), func(e *impl.Eng) { e.Chans[1].Buf, e.Chans[1].Closed = []int{903}, true }, 0, func(e *impl.Eng) { dies(e, 0, impl.WyClosed) }, no},
		{"closed without a value", opEng(opSend1), func(e *impl.Eng) { e.Chans[1].Closed = true }, 0, func(e *impl.Eng) { dies(e, 0, impl.WyClosed) }, no},
		{"closed and full", opEng(opSend1), func(e *impl.Eng) { e.Chans[1].Buf, e.Chans[1].Closed = []int{903, 904}, true }, 0, func(e *impl.Eng) { dies(e, 0, impl.WyClosed) }, no},
		{"one receives into one register", opEng(opSend2, opRecv2), nil, 0, func(e *impl.Eng) {
			goes(e, 0, opSend2+1, sentItem(2, 60))
			goes(e, 1, opRecv2+1, gotItem(2, 60))
			regs(e, 1, 5, 60, 5, 1)
			e.Chans[2].Recvs = nil
		}, no},
		{"0 is a value", opEng(opSend1, opRecv1), func(e *impl.Eng) { e.Gs[0].Regs[3] = 0 }, 0, func(e *impl.Eng) {
			goes(e, 0, opSend1+1, sentItem(1, 0))
			goes(e, 1, opRecv1+1, gotItem(1, 0))
			regs(e, 1, 4, 0, 3, 1)
			e.Chans[1].Recvs = nil
		}, no},
		{"the greatest value", opEng(opSend1), func(e *impl.Eng) { e.Gs[0].Regs[3] = 999 }, 0, func(e *impl.Eng) {
			goes(e, 0, opSend1+1, sentItem(1, 999))
			e.Chans[1].Buf = []int{999}
		}, no},
	})
}

func TestDoRecv(t *testing.T) {
	no := impl.NoCase
	tryDeeds(t, []opDeed{
		{"nil", opEng(opRecvNil), nil, 0, func(e *impl.Eng) { waitsIn(e) }, no},
		{"without room", opEng(opRecv0), nil, 0, func(e *impl.Eng) { waitsIn(e, recvPlace(0, -1)) }, no},
		{"without room, behind several", opEng(opRecv0, opRecv0, opSelect0, opRecv0), nil, 0, func(e *impl.Eng) { waitsIn(e, recvPlace(0, -1)) }, no},
		{"without room, closed", opEng(opRecv0), func(e *impl.Eng) { e.Chans[0].Closed = true }, 0, func(e *impl.Eng) {
			goes(e, 0, opRecv0+1, zeroItem(0))
			regs(e, 0, 1, 0, 2, 0)
		}, no},
		{"without room, one sends", opEng(opRecv0, opSend0), nil, 0, func(e *impl.Eng) {
			goes(e, 0, opRecv0+1, gotItem(0, 120))
			regs(e, 0, 1, 120, 2, 1)
			goes(e, 1, opSend0+1, sentItem(0, 120))
			e.Chans[0].Sends = nil
		}, no},
		{"without room, several send, the first one by a select", opEng(opRecv0, opSelect1, opSend0, opSelect5, opSend2), nil, 0, func(e *impl.Eng) {
			goes(e, 0, opRecv0+1, gotItem(0, 150))
			regs(e, 0, 1, 150, 2, 1)
			goes(e, 1, 35, pickedItem(1, 0), sentItem(0, 150))
			e.Chans[0].Sends = []impl.Waiter{{G: 2, Case: -1, Val: 220}, {G: 3, Case: 2, Val: 330}}
			e.Chans[1].Recvs = []impl.Waiter{{G: 3, Case: 1}}
			e.Chans[2].Sends = []impl.Waiter{{G: 4, Case: -1, Val: 460}}
		}, no},
		{"empty", opEng(opRecv1), nil, 0, func(e *impl.Eng) { waitsIn(e, recvPlace(1, -1)) }, no},
		{"empty, behind one by a select", opEng(opRecv1, opSelect1), nil, 0, func(e *impl.Eng) { waitsIn(e, recvPlace(1, -1)) }, no},
		{"half full", opEng(opRecv1), func(e *impl.Eng) { e.Chans[1].Buf = []int{903} }, 0, func(e *impl.Eng) {
			goes(e, 0, opRecv1+1, gotItem(1, 903))
			regs(e, 0, 4, 903, 3, 1)
			e.Chans[1].Buf = nil
		}, no},
		{"full", opEng(opRecv1), func(e *impl.Eng) { e.Chans[1].Buf = []int{903, 904} }, 0, func(e *impl.Eng) {
			goes(e, 0, opRecv1+1, gotItem(1, 903))
			regs(e, 0, 4, 903, 3, 1)
			e.Chans[1].Buf = []int{904}
		}, no},
		{"full, one sends", opEng(opRecv1, opSend1), nil, 0, func(e *impl.Eng) {
			goes(e, 0, opRecv1+1, gotItem(1, 901))
			regs(e, 0, 4, 901, 3, 1)
			goes(e, 1, opSend1+1, sentItem(1, 140))
			e.Chans[1].Buf, e.Chans[1].Sends = []int{902, 140}, nil
		}, no},
		{"full, several send, the first one by a select", opEng(opRecv1, opSelect0, opSend1, opSelect0), nil, 0, func(e *impl.Eng) {
			goes(e, 0, opRecv1+1, gotItem(1, 901))
			regs(e, 0, 4, 901, 3, 1)
			goes(e, 1, 32, pickedItem(0, 1), sentItem(1, 140))
			e.Chans[0].Recvs = []impl.Waiter{{G: 3, Case: 0}}
			e.Chans[1].Buf, e.Chans[1].Sends = []int{902, 140}, []impl.Waiter{{G: 2, Case: -1, Val: 240}, {G: 3, Case: 1, Val: 340}}
			e.Chans[2].Recvs = []impl.Waiter{{G: 3, Case: 2}}
		}, no},
		{"closed with a value", opEng(opRecv1), func(e *impl.Eng) { e.Chans[1].Buf, e.Chans[1].Closed = []int{0}, true }, 0, func(e *impl.Eng) {
			goes(e, 0, opRecv1+1, gotItem(1, 0))
			regs(e, 0, 4, 0, 3, 1)
			e.Chans[1].Buf = nil
		}, no},
		{"closed and full", opEng(opRecv1), func(e *impl.Eng) { e.Chans[1].Buf, e.Chans[1].Closed = []int{903, 904}, true }, 0, func(e *impl.Eng) {
			goes(e, 0, opRecv1+1, gotItem(1, 903))
			regs(e, 0, 4, 903, 3, 1)
			e.Chans[1].Buf = []int{904}
		}, no},
		{"closed without a value", opEng(opRecv1), func(e *impl.Eng) { e.Chans[1].Closed = true }, 0, func(e *impl.Eng) {
			goes(e, 0, opRecv1+1, zeroItem(1))
			regs(e, 0, 4, 0, 3, 0)
		}, no},
		{"into one register", opEng(opRecv2), func(e *impl.Eng) { e.Chans[2].Buf = []int{903} }, 0, func(e *impl.Eng) {
			goes(e, 0, opRecv2+1, gotItem(2, 903))
			regs(e, 0, 5, 903, 5, 1)
			e.Chans[2].Buf = nil
		}, no},
		{"into one register, closed", opEng(opRecv2), func(e *impl.Eng) { e.Chans[2].Closed = true }, 0, func(e *impl.Eng) {
			goes(e, 0, opRecv2+1, zeroItem(2))
			regs(e, 0, 5, 0, 5, 0)
		}, no},
	})
}

func TestDoClose(t *testing.T) {
	no := impl.NoCase
	closed := func(ch int) impl.Item { return impl.Item{Kind: impl.ItClosed, Obj: ch} }
	tryDeeds(t, []opDeed{
		{"nil", opEng(opCloseNil), nil, 0, func(e *impl.Eng) { dies(e, 0, impl.WyNil) }, no},
		{"closed", opEng(opClose1), func(e *impl.Eng) { e.Chans[1].Closed = true }, 0, func(e *impl.Eng) { dies(e, 0, impl.WyClosed) }, no},
		{"closed with a value", opEng(opClose1), func(e *impl.Eng) { e.Chans[1].Buf, e.Chans[1].Closed = []int{5}, true }, 0, func(e *impl.Eng) { dies(e, 0, impl.WyClosed) }, no},
		{"nobody waits", opEng(opClose0), nil, 0, func(e *impl.Eng) {
			goes(e, 0, opClose0+1, closed(0))
			e.Chans[0].Closed = true
		}, no},
		{"its values stay", opEng(opClose1), func(e *impl.Eng) { e.Chans[1].Buf = []int{903, 904} }, 0, func(e *impl.Eng) {
			goes(e, 0, opClose1+1, closed(1))
			e.Chans[1].Closed = true
		}, no},
		{"one receives", opEng(opClose1, opRecv1), nil, 0, func(e *impl.Eng) {
			goes(e, 0, opClose1+1, closed(1))
			goes(e, 1, opRecv1+1, zeroItem(1))
			regs(e, 1, 4, 0, 3, 0)
			e.Chans[1].Closed, e.Chans[1].Recvs = true, nil
		}, no},
		{"several receive, plainly and by selects", opEng(opClose0, opSelect0, opRecv0, opSelect0, opRecv0, opSend1), nil, 0, func(e *impl.Eng) {
			goes(e, 0, opClose0+1, closed(0))
			for _, n := range []int{1, 3} {
				goes(e, n, 31, pickedItem(0, 0), zeroItem(0))
				regs(e, n, 1, 0, 2, 0)
			}
			for _, n := range []int{2, 4} {
				goes(e, n, opRecv0+1, zeroItem(0))
				regs(e, n, 1, 0, 2, 0)
			}
			e.Chans[0].Closed, e.Chans[0].Recvs = true, nil
			e.Chans[1].Sends = []impl.Waiter{{G: 5, Case: -1, Val: 540}}
			e.Chans[2].Recvs = nil
		}, no},
		{"one sends", opEng(opClose0, opSend0), nil, 0, func(e *impl.Eng) {
			goes(e, 0, opClose0+1, closed(0))
			dies(e, 1, impl.WyClosed)
			e.Chans[0].Closed, e.Chans[0].Sends = true, nil
		}, no},
		{"several send, plainly and by selects", opEng(opClose1, opSelect0, opSend1, opSelect0, opRecv0), nil, 0, func(e *impl.Eng) {
			goes(e, 0, opClose1+1, closed(1))
			dies(e, 1, impl.WyClosed, pickedItem(0, 1))
			dies(e, 2, impl.WyClosed)
			dies(e, 3, impl.WyClosed, pickedItem(0, 1))
			e.Chans[0].Recvs = []impl.Waiter{{G: 4, Case: -1}}
			e.Chans[1].Closed, e.Chans[1].Sends = true, nil
			e.Chans[2].Recvs = nil
		}, no},
		{"those that wait elsewhere", opEng(opClose2, opSend0, opRecv1, opLock0), func(e *impl.Eng) { e.Mus[0].Owner = 0 }, 0, func(e *impl.Eng) {
			goes(e, 0, opClose2+1, closed(2))
			e.Chans[2].Closed = true
		}, no},
		{"one waits at it and at others", opEng(opClose2, opSelect1), nil, 0, func(e *impl.Eng) {
			goes(e, 0, opClose2+1, closed(2))
			dies(e, 1, impl.WyClosed, pickedItem(1, 2))
			e.Chans[2].Closed = true
			e.Chans[0].Sends, e.Chans[1].Recvs, e.Chans[2].Sends = nil, nil, nil
		}, no},
	})
}

func TestDoSelect(t *testing.T) {
	waited := impl.Waited
	tryDeeds(t, []opDeed{
		{"only nil channels", opEng(opSelectNil), nil, 0, func(e *impl.Eng) { waitsIn(e) }, waited},
		{"no case is ready", opEng(opSelect1), func(e *impl.Eng) { e.Chans[2].Buf = []int{903} }, 0, func(e *impl.Eng) {
			waitsIn(e, sendPlace(0, 0, 50), recvPlace(1, 1), sendPlace(2, 2, 10))
		}, waited},
		{"no case is ready, one is nil", opEng(opSelect5, opSelect5), nil, 7, func(e *impl.Eng) {
			waitsIn(e, recvPlace(1, 1), sendPlace(0, 2, 30))
		}, waited},
		{"no case is ready, the last one is nil", opEng(opSelect0, opSelect0), nil, -1, func(e *impl.Eng) {
			waitsIn(e, recvPlace(0, 0), sendPlace(1, 1, 40), recvPlace(2, 2))
		}, waited},
		{"no case is ready, there is an Else", opEng(opSelectElse), func(e *impl.Eng) { e.Chans[2].Buf = []int{903} }, 3, func(e *impl.Eng) {
			goes(e, 0, 30, pickedItem(3, -1))
		}, -1},
		{"an Else alone", opEng(opElse), nil, math.MinInt, func(e *impl.Eng) { goes(e, 0, 29, pickedItem(4, -1)) }, -1},
		{"a case that sends, with an Else", opEng(opSelectElse), nil, 0, func(e *impl.Eng) {
			goes(e, 0, 39, pickedItem(3, 1), sentItem(2, 20))
			e.Chans[2].Buf = []int{20}
		}, 1},
		{"a case that receives, with an Else", opEng(opSelectElse, opSend0), func(e *impl.Eng) { e.Chans[2].Buf = []int{903} }, 0, func(e *impl.Eng) {
			goes(e, 0, 38, pickedItem(3, 0), gotItem(0, 120))
			regs(e, 0, 3, 120, 5, 1)
			goes(e, 1, opSend0+1, sentItem(0, 120))
			e.Chans[0].Sends = nil
		}, 0},
		{"to a closed channel", opEng(opSelectElse), func(e *impl.Eng) { e.Chans[2].Closed = true }, 0, func(e *impl.Eng) {
			dies(e, 0, impl.WyClosed, pickedItem(3, 1))
		}, 1},
		{"from a closed channel", opEng(opSelectElse), func(e *impl.Eng) { e.Chans[2].Buf, e.Chans[0].Closed = []int{903}, true }, 5, func(e *impl.Eng) {
			goes(e, 0, 38, pickedItem(3, 0), zeroItem(0))
			regs(e, 0, 3, 0, 5, 0)
		}, 0},
		{"from a closed channel with a value", opEng(opSelect5), func(e *impl.Eng) { e.Chans[1].Buf, e.Chans[1].Closed = []int{903, 904}, true }, 1, func(e *impl.Eng) {
			goes(e, 0, 28, pickedItem(5, 1), gotItem(1, 903))
			regs(e, 0, 0, 903, 1, 1)
			e.Chans[1].Buf = []int{904}
		}, 1},
		{"into one register", opEng(opSelect0), func(e *impl.Eng) { e.Chans[1].Buf, e.Chans[2].Buf = []int{905, 906}, []int{903} }, 0, func(e *impl.Eng) {
			goes(e, 0, 33, pickedItem(0, 2), gotItem(2, 903))
			regs(e, 0, 4, 903, 4, 1)
			e.Chans[2].Buf = nil
		}, 2},
		{"to one that receives by another select", opEng(opSelect1, opSelect0), nil, 0, func(e *impl.Eng) {
			goes(e, 0, 35, pickedItem(1, 0), sentItem(0, 50))
			goes(e, 1, 31, pickedItem(0, 0), gotItem(0, 50))
			regs(e, 1, 1, 50, 2, 1)
			e.Chans[0].Recvs, e.Chans[1].Sends, e.Chans[2].Recvs = nil, nil, nil
		}, 0},
		{"from one that sends by another select", opEng(opSelect1, opSelect0), nil, 1, func(e *impl.Eng) {
			goes(e, 0, 36, pickedItem(1, 1), gotItem(1, 901))
			regs(e, 0, 5, 901, 0, 1)
			goes(e, 1, 32, pickedItem(0, 1), sentItem(1, 140))
			e.Chans[0].Recvs, e.Chans[2].Recvs = nil, nil
			e.Chans[1].Buf, e.Chans[1].Sends = []int{902, 140}, nil
		}, 1},
		{"to one that receives by another select into one register", opEng(opSelect1, opSelect0), nil, 2, func(e *impl.Eng) {
			goes(e, 0, 37, pickedItem(1, 2), sentItem(2, 10))
			goes(e, 1, 33, pickedItem(0, 2), gotItem(2, 10))
			regs(e, 1, 4, 10, 4, 1)
			e.Chans[0].Recvs, e.Chans[1].Sends, e.Chans[2].Recvs = nil, nil, nil
		}, 2},
		{"to the first of several, which wait elsewhere too", opEng(opSelect1, opSelect0, opRecv0, opSelect0), nil, -3, func(e *impl.Eng) {
			goes(e, 0, 35, pickedItem(1, 0), sentItem(0, 50))
			goes(e, 1, 31, pickedItem(0, 0), gotItem(0, 50))
			regs(e, 1, 1, 50, 2, 1)
			e.Chans[0].Recvs = []impl.Waiter{{G: 2, Case: -1}, {G: 3, Case: 0}}
			e.Chans[1].Sends = []impl.Waiter{{G: 3, Case: 1, Val: 340}}
			e.Chans[2].Recvs = []impl.Waiter{{G: 3, Case: 2}}
		}, 0},
	})
}

func TestDoLock(t *testing.T) {
	no := impl.NoCase
	lock := func(mutex int) impl.Place {
		return impl.Place{Mutex: true, Obj: mutex, W: impl.Waiter{Case: -1}}
	}
	owned := func(first, second int) func(e *impl.Eng) {
		return func(e *impl.Eng) { e.Mus[0].Owner, e.Mus[1].Owner = first, second }
	}
	tryDeeds(t, []opDeed{
		{"free", opEng(opLock0, opSend0), owned(-1, 1), 0, func(e *impl.Eng) {
			goes(e, 0, opLock0+1, lockedItem(0))
			e.Mus[0].Owner = 0
		}, no},
		{"the other one is free", opEng(opLock1, opSend0), owned(1, -1), 0, func(e *impl.Eng) {
			goes(e, 0, opLock1+1, lockedItem(1))
			e.Mus[1].Owner = 0
		}, no},
		{"its own", opEng(opLock0), owned(0, -1), 0, func(e *impl.Eng) { dies(e, 0, impl.WySelf) }, no},
		{"its own, for which several wait", opEng(opLock1, opLock1, opLock1), owned(-1, 0), 0, func(e *impl.Eng) { dies(e, 0, impl.WySelf) }, no},
		{"another one has it", opEng(opLock0, opSend0), owned(1, -1), 0, func(e *impl.Eng) { waitsIn(e, lock(0)) }, no},
		{"behind several", opEng(opLock0, opLock0, opLock1, opLock0, opSend0), owned(4, 4), 0, func(e *impl.Eng) { waitsIn(e, lock(0)) }, no},
		{"it has the other one", opEng(opLock1, opLock0, opLock1, opSend0), owned(0, 3), 0, func(e *impl.Eng) { waitsIn(e, lock(1)) }, no},
	})
}

func TestDoUnlock(t *testing.T) {
	no := impl.NoCase
	given := func(mutex int) impl.Item { return impl.Item{Kind: impl.ItUnlocked, Obj: mutex} }
	owned := func(first, second int) func(e *impl.Eng) {
		return func(e *impl.Eng) { e.Mus[0].Owner, e.Mus[1].Owner = first, second }
	}
	tryDeeds(t, []opDeed{
		{"free", opEng(opUnlock0), nil, 0, func(e *impl.Eng) { dies(e, 0, impl.WyOwner) }, no},
		{"another one has it", opEng(opUnlock0, opSend0), owned(1, 0), 0, func(e *impl.Eng) { dies(e, 0, impl.WyOwner) }, no},
		{"another one has it, and one waits", opEng(opUnlock0, opLock0, opSend0), owned(2, 0), 0, func(e *impl.Eng) { dies(e, 0, impl.WyOwner) }, no},
		{"its own", opEng(opUnlock0), owned(0, 0), 0, func(e *impl.Eng) {
			goes(e, 0, opUnlock0+1, given(0))
			e.Mus[0].Owner = -1
		}, no},
		{"one waits", opEng(opUnlock1, opLock1), owned(-1, 0), 0, func(e *impl.Eng) {
			goes(e, 0, opUnlock1+1, given(1))
			goes(e, 1, opLock1+1, lockedItem(1))
			e.Mus[1] = impl.Mutex{Owner: 1}
		}, no},
		{"several wait, and not in the order of their numbers", opEng(opUnlock0, opLock0, opLock0, opLock1, opLock0), func(e *impl.Eng) {
			e.Mus[0] = impl.Mutex{Owner: 0, Wait: []int{4, 1, 2}}
			e.Mus[1].Owner = 0
		}, 0, func(e *impl.Eng) {
			goes(e, 0, opUnlock0+1, given(0))
			goes(e, 4, opLock0+1, lockedItem(0))
			e.Mus[0] = impl.Mutex{Owner: 4, Wait: []int{1, 2}}
		}, no},
		{"those that wait for the other one", opEng(opUnlock0, opLock1, opLock1), owned(0, 0), 0, func(e *impl.Eng) {
			goes(e, 0, opUnlock0+1, given(0))
			e.Mus[0].Owner = -1
		}, no},
	})
}

func TestDoSpawn(t *testing.T) {
	no := impl.NoCase
	var l []opDeed
	for size := 1; size <= 10; size++ {
		asleep := slices.Repeat([]int{opRecv0}, size-1)
		l = append(l, opDeed{"of the procedure 0", opEng(opSpawn0, asleep...), nil, 0, func(e *impl.Eng) {
			if size == 10 {
				dies(e, 0, impl.WyMany)
				return
			}
			goes(e, 0, opSpawn0+1, impl.Item{Kind: impl.ItSpawned, Obj: 0, Val: size})
			e.Gs = append(e.Gs, impl.Gor{Proc: 0, Regs: []int{30, 0, 0, 0, 0, 0}, State: impl.GsReady})
		}, no})
		l = append(l, opDeed{"of the procedure 1", opEng(opSpawn1, asleep...), nil, size, func(e *impl.Eng) {
			if size == 10 {
				dies(e, 0, impl.WyMany)
				return
			}
			goes(e, 0, opSpawn1+1, impl.Item{Kind: impl.ItSpawned, Obj: 1, Val: size})
			e.Gs = append(e.Gs, impl.Gor{Proc: 1, Regs: []int{50, 0, 0, 0, 0, 0}, State: impl.GsReady})
		}, no})
	}
	tryDeeds(t, l)
}

// Those that have ended count as well: a goroutine too many is one behind MaxGs of any state.
func TestDoSpawnBesideEnded(t *testing.T) {
	for size := 1; size <= 10; size++ {
		e := opEng(opSpawn1)
		for n := 1; n < size; n++ {
			e.Gs = append(e.Gs, inState(actor(n, opSet), 3+n%2))
		}
		got, _ := impl.DoShared(opProg(), e, 0, 0)
		if dead := got.Gs[0].State == impl.GsDead; dead != (size == 10) || len(got.Gs) != min(size+1, 10) {
			t.Errorf("with %d goroutines: %+v", size, got)
		}
	}
}

func TestDoPrint(t *testing.T) {
	for r := range 6 {
		for _, v := range []int{0, 1, 500, 999} {
			p := opProg()
			p.Procs[1].Code[opPrint].A = r
			e := opEng(opPrint, opRecv0, opSelectNil)
			e.Gs[0].Regs[r] = v
			want := copyEng(e)
			goes(&want, 0, opPrint+1, impl.Item{Kind: impl.ItPrinted, Val: v})
			if got, chosen := impl.DoShared(p, e, 0, r); !sameEng(got, want) || chosen != impl.NoCase {
				t.Errorf("register %d of %d: %+v, %d, not %+v", r, v, got, chosen, want)
			}
		}
	}
}

// choices are far out, below and above how many cases are ready.
func choices() []int {
	return []int{math.MinInt, math.MinInt + 1, -1 << 32, -1000, -5, -4, -3, -2, -1, 0, 1, 2, 3, 4, 5, 6, 7, 11, 1000, 1 << 32, 1<<32 + 1, math.MaxInt - 1, math.MaxInt}
}

// restOf is n mod m, by taking m away or adding it; the int is made small by its rest first.
func restOf(n int, m int) int {
	n %= m
	for n < 0 {
		n += m
	}
	return n
}

// A select is taken by its choice, by the rest: with each set of ready cases, and each kind of choice.
func TestDoSelectByTheRest(t *testing.T) {
	for _, other := range []int{-1, 3} {
		p := fourProg(other)
		for bits := range 16 {
			var ready []int
			for k := range 4 {
				if bits>>k&1 != 0 {
					ready = append(ready, k)
				}
			}
			for _, choice := range choices() {
				for n := range 2 {
					want := other
					switch {
					case len(ready) > 0:
						want = ready[restOf(choice, len(ready))]
					case other == -1:
						want = impl.Waited
					default:
						want = -1
					}
					e, got := impl.DoShared(p, fourEng(bits, n), n, choice)
					if got != want {
						t.Errorf("with the bits %d, an Else of %d and the choice %d: %d was chosen, not %d", bits, other, choice, got, want)
					}
					g := e.Gs[n]
					switch {
					case want == impl.Waited:
						if g.State != impl.GsWait || g.Pc != 0 || len(g.Trace) != 0 {
							t.Errorf("with the bits %d: it waits as %+v", bits, g)
						}
					case len(g.Trace) == 0 || g.Trace[0] != pickedItem(0, want):
						t.Errorf("with the bits %d and the choice %d: it told %+v", bits, choice, g.Trace)
					}
				}
			}
		}
	}
}

// A choice tells nothing where there is nothing to choose.
func TestDoSharedOfChoices(t *testing.T) {
	for pc := range opPrint + 1 {
		if opProg().Procs[1].Code[pc].Op == impl.OpSelect {
			continue
		}
		for _, e := range []impl.Eng{opEng(pc), opEng(pc, opSend0, opSend1, opSelectNil), opEng(pc, opRecv0, opRecv1, opRecv2)} {
			want, code := impl.DoShared(opProg(), e, 0, 0)
			for _, choice := range choices() {
				if got, chosen := impl.DoShared(opProg(), e, 0, choice); !sameEng(got, want) || chosen != code || chosen != impl.NoCase {
					t.Errorf("at the place %d with the choice %d: %+v, %d", pc, choice, got, chosen)
				}
			}
		}
	}
}

// noShared tells whether DoShared answers nothing.
func noShared(p impl.Prog, e impl.Eng, n int) bool {
	for _, choice := range []int{0, 1, -1, math.MaxInt} {
		if got, chosen := impl.DoShared(p, e, n, choice); !sameEng(got, impl.Eng{}) || chosen != 0 {
			return false
		}
	}
	return true
}

// Each of the fifteen instructions in each state.
func TestDoSharedOfTheFifteen(t *testing.T) {
	p := waitProg()
	for pc, i := range p.Procs[0].Code {
		for state := range 6 {
			for n := range 2 {
				e := fifteenEng(pc, state, n)
				want := state == impl.GsReady && i.Op >= impl.OpSend
				if got := !noShared(p, e, n); got != want {
					t.Errorf("%s in the state %d: a shared step is %v", impl.OpWord(i.Op), state, got)
				}
				trySteps(t, p, true, e, n)
				trySteps(t, p, true, e, 1-n)
			}
		}
	}
}

func TestDoSharedOfNumbers(t *testing.T) {
	for size := 1; size <= 11; size++ {
		e := opEng(opPrint)
		e.Gs = slices.Repeat([]impl.Gor{actor(0, opPrint)}, size)
		for _, n := range gorNumbers(size) {
			there := n >= 0 && n < size && size <= 10
			got, chosen := impl.DoShared(opProg(), e, n, 0)
			if !there && !noShared(opProg(), e, n) {
				t.Errorf("of %d goroutines the one with the number %d: %+v, %d", size, n, got, chosen)
			}
			if !there {
				continue
			}
			want := copyEng(e)
			goes(&want, n, opPrint+1, impl.Item{Kind: impl.ItPrinted, Val: 60})
			if !sameEng(got, want) || chosen != impl.NoCase {
				t.Errorf("of %d goroutines the one with the number %d: %+v, %d", size, n, got, chosen)
			}
		}
	}
}

// The eight shared instructions, each done by the goroutine with any number, and to any number.
func TestDoSharedBetweenAnyTwo(t *testing.T) {
	p := opProg()
	for _, pair := range [][2]int{{opSend0, opRecv0}, {opSend1, opSelect5}, {opRecv1, opSend1}, {opRecv2, opSelect1}, {opClose0, opSelect0}, {opClose1, opSend1}, {opSelect1, opSelect0}, {opUnlock0, opLock0}} {
		for from := range 5 {
			for to := range 5 {
				if from == to {
					continue
				}
				e := plainEng(p)
				e.Gs = nil
				for n := range 5 {
					e.Gs = append(e.Gs, actor(n, opSet))
				}
				e.Gs[from].Pc, e.Gs[to].Pc, e.Gs[to].State = pair[0], pair[1], impl.GsWait
				for _, x := range wantPlaces(p, true, e.Gs[to], to) {
					stand(func(int) int { return 0 }, &e, x)
				}
				for k, c := range e.Chans {
					if len(c.Sends) > 0 {
						e.Chans[k].Buf = slices.Repeat([]int{7}, c.Cap)
					}
				}
				e.Mus[0].Owner = from
				trySteps(t, p, true, e, from)
				got, _ := impl.DoShared(p, e, from, 0)
				if len(got.Gs) != 5 || got.Gs[to].State == impl.GsWait {
					t.Errorf("from %d to %d at the places %v: %+v", from, to, pair, got)
				}
			}
		}
	}
}

// What each of these does makes an engine wrong, in which the goroutine 0 could do something.
func wrongEngs() []engChange {
	return []engChange{
		{"one goroutine too many", func(e *impl.Eng) {
			for len(e.Gs) < 11 {
				e.Gs = append(e.Gs, actor(0, opSet))
			}
		}, false},
		{"no goroutines", func(e *impl.Eng) { e.Gs = nil }, false},
		{"no channels", func(e *impl.Eng) { e.Chans = nil }, false},
		{"a channel too few", func(e *impl.Eng) { e.Chans = e.Chans[:2] }, false},
		{"a channel too many", func(e *impl.Eng) { e.Chans = append(e.Chans, impl.Chan{}) }, false},
		{"another capacity", func(e *impl.Eng) { e.Chans[2].Cap = 2 }, false},
		{"a channel that isn't right", func(e *impl.Eng) { e.Chans[0].Buf = []int{1} }, false},
		{"no mutexes", func(e *impl.Eng) { e.Mus = nil }, false},
		{"a mutex too many", func(e *impl.Eng) { e.Mus = append(e.Mus, impl.Mutex{Owner: -1}) }, false},
		{"a mutex that isn't right", func(e *impl.Eng) { e.Mus[1].Wait = []int{1} }, false},
		{"an owner that is no goroutine", func(e *impl.Eng) { e.Mus[1].Owner = 2 }, false},
		{"another one without registers", func(e *impl.Eng) { e.Gs[1].Regs = nil }, false},
		{"another one in the state 0", func(e *impl.Eng) { e.Gs[1].State = 0 }, false},
		{"another one in the state 5", func(e *impl.Eng) { e.Gs[1].State = 5 }, false},
		{"another one at no place", func(e *impl.Eng) { e.Gs[1].Pc = 40 }, false},
		{"another one is ready, but stands", func(e *impl.Eng) { e.Gs[1].State = impl.GsReady }, false},
		{"another one stands for another case", func(e *impl.Eng) { e.Chans[1].Recvs[0].Case = 2 }, false},
		{"another one stands twice", func(e *impl.Eng) { e.Chans[1].Recvs = append(e.Chans[1].Recvs, e.Chans[1].Recvs[0]) }, false},
		{"another one stands at one of its places only", func(e *impl.Eng) { e.Chans[0].Sends = nil }, false},
		{"it stands itself", func(e *impl.Eng) { e.Chans[1].Recvs = append(e.Chans[1].Recvs, impl.Waiter{G: 0, Case: -1}) }, false},
		{"a register too few", func(e *impl.Eng) { e.Gs[0].Regs = e.Gs[0].Regs[:5] }, false},
		{"a register of 1000", func(e *impl.Eng) { e.Gs[0].Regs[5] = 1000 }, false},
		{"an end in its trace", func(e *impl.Eng) { e.Gs[0].Trace = []impl.Item{{Kind: impl.ItDone}} }, false},
		{"an item that isn't right", func(e *impl.Eng) { e.Gs[0].Trace = []impl.Item{{}} }, false},
		{"no procedure", func(e *impl.Eng) { e.Gs[0].Proc = 2 }, false},
		{"no place", func(e *impl.Eng) { e.Gs[0].Pc = 40 }, false},
		{"a place below 0", func(e *impl.Eng) { e.Gs[0].Pc = -1 }, false},
	}
}

func TestOpOfWrongEngs(t *testing.T) {
	w := impl.Waiter{G: 1, Case: 1}
	for pc := range opPrint + 1 {
		right := opEng(pc, opSelect5)
		if _, ok := impl.Wake(opProg(), right, 1, w, 5, true); !ok || noShared(opProg(), right, 0) {
			t.Fatalf("at the place %d: nothing is done in %+v", pc, right)
		}
		for _, x := range wrongEngs() {
			e := copyEng(right)
			x.do(&e)
			for _, n := range gorNumbers(len(e.Gs)) {
				if !noShared(opProg(), e, n) {
					t.Errorf("%s: at the place %d the goroutine %d does something", x.what, pc, n)
				}
			}
			if got, ok := impl.Wake(opProg(), e, 1, w, 5, true); ok || !sameEng(got, impl.Eng{}) {
				t.Errorf("%s: at the place %d one is woken", x.what, pc)
			}
		}
	}
	for _, n := range gorNumbers(0) {
		if !noShared(opProg(), impl.Eng{}, n) {
			t.Errorf("in nothing of an engine the goroutine %d does something", n)
		}
	}
}

func TestOpOfWrongProgs(t *testing.T) {
	try := func(what string, p impl.Prog) {
		for proc := range 2 {
			for pc := range 11 {
				e := plainEng(p)
				e.Gs = []impl.Gor{atPlace(pc), atPlace(pc)}
				e.Gs[0].Proc, e.Gs[1].Proc = proc, proc
				for _, n := range gorNumbers(2) {
					if !noShared(p, e, n) {
						t.Errorf("%s: at the place %d of the procedure %d a step is done", what, pc, proc)
					}
				}
				e.Gs[1].State = impl.GsWait
				for _, x := range []impl.Place{recvPlace(0, 1), recvPlace(0, -1), sendPlace(2, -1, 1), sendPlace(1, 0, 3)} {
					x.W.G = 1
					d := copyEng(e)
					if x.Obj < len(d.Chans) {
						stand(func(n int) int { return n - 1 }, &d, x)
					}
					if got, ok := impl.Wake(p, d, x.Obj, x.W, 0, true); ok || !sameEng(got, impl.Eng{}) {
						t.Errorf("%s: at the place %d of the procedure %d one is woken", what, pc, proc)
					}
				}
			}
		}
	}
	for _, x := range wrongChanges() {
		p := fullProg()
		x.do(&p)
		try(x.what, p)
	}
	try("nothing of a program", impl.Prog{})
	none := opProg()
	none.Sels[4].Else = -1
	if !noShared(none, opEng(opPrint), 0) || noShared(opProg(), opEng(opPrint), 0) {
		t.Error("a select without a case and without an Else is right")
	}
	if !noShared(waitProg(), opEng(opPrint), 0) {
		t.Error("the engine of another program is right")
	}
}

// outOfQueues leaves nothing of the goroutine g in any channel.
func outOfQueues(e *impl.Eng, g int) {
	isIt := func(w impl.Waiter) bool { return w.G == g }
	for k := range e.Chans {
		e.Chans[k].Sends = slices.DeleteFunc(e.Chans[k].Sends, isIt)
		e.Chans[k].Recvs = slices.DeleteFunc(e.Chans[k].Recvs, isIt)
	}
}

// The three ways to be woken, each by the document's words: with a value to receive, with its own value sent, and by a close.
func wokenGot(p impl.Prog, e *impl.Eng, ch int, w impl.Waiter, v int, ok bool) {
	outOfQueues(e, w.G)
	g := &e.Gs[w.G]
	i := p.Procs[g.Proc].Code[g.Pc]
	first, second, to := i.B, i.C, g.Pc+1
	if w.Case != -1 {
		x := p.Sels[i.A].Cases[w.Case]
		first, second, to = x.Reg, x.Ok, x.To
		g.Trace = append(g.Trace, impl.Item{Kind: 4, Obj: i.A, Val: w.Case})
	}
	g.Trace = append(g.Trace, impl.Item{Kind: 2, Obj: ch, Val: v, Ok: ok})
	g.Regs[first] = v
	g.Regs[second] = 0
	if ok {
		g.Regs[second] = 1
	}
	g.Pc, g.State = to, 1
}

func wokenSent(p impl.Prog, e *impl.Eng, ch int, w impl.Waiter) {
	outOfQueues(e, w.G)
	g := &e.Gs[w.G]
	i := p.Procs[g.Proc].Code[g.Pc]
	to := g.Pc + 1
	if w.Case != -1 {
		to = p.Sels[i.A].Cases[w.Case].To
		g.Trace = append(g.Trace, impl.Item{Kind: 4, Obj: i.A, Val: w.Case})
	}
	g.Trace = append(g.Trace, impl.Item{Kind: 1, Obj: ch, Val: w.Val})
	g.Pc, g.State = to, 1
}

func wokenClosed(p impl.Prog, e *impl.Eng, w impl.Waiter) {
	outOfQueues(e, w.G)
	g := &e.Gs[w.G]
	if w.Case != -1 {
		g.Trace = append(g.Trace, impl.Item{Kind: 4, Obj: p.Procs[g.Proc].Code[g.Pc].A, Val: w.Case})
	}
	*g = wantOver(*g, 1)
}

// wantWait puts the goroutine n behind all its places.
func wantWait(p impl.Prog, e *impl.Eng, n int) {
	e.Gs[n].State = 2
	for _, x := range wantPlaces(p, true, e.Gs[n], n) {
		stand(func(n int) int { return n - 1 }, e, x)
	}
}

// wantSendBy and wantRecvBy are a send and a receive by an instruction or a case, that goes on at this place.
func wantSendBy(p impl.Prog, e *impl.Eng, n int, ch int, r int, to int) {
	if ch == -1 || !wantCanSend(e.Chans[ch]) {
		wantWait(p, e, n)
		return
	}
	if e.Chans[ch].Closed {
		e.Gs[n] = wantOver(e.Gs[n], 1)
		return
	}
	v := e.Gs[n].Regs[r]
	x := wantSend(e.Chans[ch], v)
	e.Chans[ch] = x.c
	e.Gs[n] = wantTell(e.Gs[n], impl.Item{Kind: 1, Obj: ch, Val: v})
	e.Gs[n].Pc = to
	if x.w.G >= 0 {
		wokenGot(p, e, ch, x.w, v, true)
	}
}

func wantRecvBy(p impl.Prog, e *impl.Eng, n int, ch int, r int, ok int, to int) {
	if ch == -1 || !wantCanRecv(e.Chans[ch]) {
		wantWait(p, e, n)
		return
	}
	x := wantRecv(e.Chans[ch])
	e.Chans[ch] = x.c
	g := wantTell(e.Gs[n], impl.Item{Kind: 2, Obj: ch, Val: x.v, Ok: x.sent})
	g.Regs[r] = x.v
	g.Regs[ok] = 0
	if x.sent {
		g.Regs[ok] = 1
	}
	g.Pc = to
	e.Gs[n] = g
	if x.w.G >= 0 {
		wokenSent(p, e, ch, x.w)
	}
}

func wantCloseBy(p impl.Prog, e *impl.Eng, n int, ch int) {
	if ch == -1 {
		e.Gs[n] = wantOver(e.Gs[n], 2)
		return
	}
	if e.Chans[ch].Closed {
		e.Gs[n] = wantOver(e.Gs[n], 1)
		return
	}
	x := wantClose(copyChan(e.Chans[ch]))
	e.Chans[ch] = x.c
	e.Gs[n] = wantTell(e.Gs[n], impl.Item{Kind: 3, Obj: ch})
	e.Gs[n].Pc++
	for _, w := range x.recvs {
		wokenGot(p, e, ch, w, 0, false)
	}
	for _, w := range x.sends {
		wokenClosed(p, e, w)
	}
}

func wantSelectBy(p impl.Prog, e *impl.Eng, n int, sel int, choice int) int {
	ready := wantReadyCases(p, true, *e, n)
	if len(ready) == 0 && p.Sels[sel].Else == -1 {
		wantWait(p, e, n)
		return -3
	}
	chosen := -1
	if len(ready) > 0 {
		chosen = ready[restOf(choice, len(ready))]
	}
	e.Gs[n] = wantTell(e.Gs[n], impl.Item{Kind: 4, Obj: sel, Val: chosen})
	if chosen == -1 {
		e.Gs[n].Pc = p.Sels[sel].Else
		return chosen
	}
	x := p.Sels[sel].Cases[chosen]
	if x.Send {
		wantSendBy(p, e, n, x.Chan, x.Reg, x.To)
	} else {
		wantRecvBy(p, e, n, x.Chan, x.Reg, x.Ok, x.To)
	}
	return chosen
}

func wantLockBy(p impl.Prog, e *impl.Eng, n int, mutex int) {
	switch e.Mus[mutex].Owner {
	case n:
		e.Gs[n] = wantOver(e.Gs[n], 4)
	case -1:
		e.Mus[mutex].Owner = n
		e.Gs[n] = wantTell(e.Gs[n], impl.Item{Kind: 5, Obj: mutex})
		e.Gs[n].Pc++
	default:
		wantWait(p, e, n)
	}
}

func wantUnlockBy(e *impl.Eng, n int, mutex int) {
	if e.Mus[mutex].Owner != n {
		e.Gs[n] = wantOver(e.Gs[n], 3)
		return
	}
	x := wantUnlock(e.Mus[mutex], n)
	e.Mus[mutex] = x.m
	e.Gs[n] = wantTell(e.Gs[n], impl.Item{Kind: 6, Obj: mutex})
	e.Gs[n].Pc++
	if x.next >= 0 {
		e.Gs[x.next] = wantTell(e.Gs[x.next], impl.Item{Kind: 5, Obj: mutex})
		e.Gs[x.next].Pc++
		e.Gs[x.next].State = 1
	}
}

func wantSpawnBy(e *impl.Eng, n int, proc int, r int) {
	if len(e.Gs) >= 10 {
		e.Gs[n] = wantOver(e.Gs[n], 5)
		return
	}
	e.Gs[n] = wantTell(e.Gs[n], impl.Item{Kind: 7, Obj: proc, Val: len(e.Gs)})
	e.Gs[n].Pc++
	e.Gs = append(e.Gs, impl.Gor{Proc: proc, Regs: []int{e.Gs[n].Regs[r], 0, 0, 0, 0, 0}, State: 1})
}

// wantDoShared follows the document's words for each of the eight shared instructions.
func wantDoShared(p impl.Prog, right bool, e impl.Eng, n int, choice int) (impl.Eng, int) {
	i, there := readyInstr(p, right, e, n)
	if !there || i.Op < 8 {
		return impl.Eng{}, 0
	}
	d := copyEng(e)
	switch i.Op {
	case 8:
		wantSendBy(p, &d, n, i.A, i.B, d.Gs[n].Pc+1)
	case 9:
		wantRecvBy(p, &d, n, i.A, i.B, i.C, d.Gs[n].Pc+1)
	case 10:
		wantCloseBy(p, &d, n, i.A)
	case 11:
		return d, wantSelectBy(p, &d, n, i.A, choice)
	case 12:
		wantLockBy(p, &d, n, i.A)
	case 13:
		wantUnlockBy(&d, n, i.A)
	case 14:
		wantSpawnBy(&d, n, i.A, i.B)
	case 15:
		d.Gs[n] = wantTell(d.Gs[n], impl.Item{Kind: 8, Val: d.Gs[n].Regs[i.A]})
		d.Gs[n].Pc++
	}
	return d, -2
}

// wantWake looks for the place among those of all goroutines.
func wantWake(p impl.Prog, right bool, e impl.Eng, ch int, w impl.Waiter, v int, ok bool) (impl.Eng, bool) {
	if !wantEngOk(p, right, e) || v < 0 || v > 999 {
		return impl.Eng{}, false
	}
	var l []impl.Place
	for n, g := range e.Gs {
		l = append(l, wantPlaces(p, right, g, n)...)
	}
	d := copyEng(e)
	switch {
	case slices.Contains(l, impl.Place{Obj: ch, W: w}) && ok:
		wokenGot(p, &d, ch, w, v, true)
	case slices.Contains(l, impl.Place{Obj: ch, W: w}):
		wokenGot(p, &d, ch, w, 0, false)
	case slices.Contains(l, impl.Place{Obj: ch, Send: true, W: w}) && ok:
		wokenSent(p, &d, ch, w)
	case slices.Contains(l, impl.Place{Obj: ch, Send: true, W: w}):
		wokenClosed(p, &d, w)
	default:
		return impl.Eng{}, false
	}
	return d, true
}

// stepChoices are enough to take each of up to four ready cases.
func stepChoices() []int {
	return []int{0, 1, 2, 3, -1, math.MaxInt}
}

// trySteps holds the shared step of n under several choices against the chapter's words.
func trySteps(t *testing.T, p impl.Prog, right bool, e impl.Eng, n int) {
	t.Helper()
	for _, choice := range stepChoices() {
		got, chosen := impl.DoShared(p, e, n, choice)
		want, code := wantDoShared(p, right, e, n, choice)
		if !sameEng(got, want) || chosen != code {
			t.Fatalf("DoShared of %d with the choice %d in %+v = %+v, %d, not %+v, %d", n, choice, e, got, chosen, want, code)
		}
		if right && len(want.Gs) > 0 && !impl.EngOk(p, got) {
			t.Fatalf("DoShared of %d with the choice %d in %+v: %+v isn't right", n, choice, e, got)
		}
	}
}

func tryWake(t *testing.T, p impl.Prog, right bool, e impl.Eng, ch int, w impl.Waiter, v int, ok bool) bool {
	t.Helper()
	got, done := impl.Wake(p, e, ch, w, v, ok)
	want, there := wantWake(p, right, e, ch, w, v, ok)
	if done != there || !sameEng(got, want) {
		t.Fatalf("Wake of %+v at %d with %d, %v in %+v = %+v, %v, not %+v, %v", w, ch, v, ok, e, got, done, want, there)
	}
	if done && !impl.EngOk(p, got) {
		t.Fatalf("Wake of %+v at %d with %d, %v in %+v: %+v isn't right", w, ch, v, ok, e, got)
	}
	return done
}

// wakeDeed is one who is woken, and what is done to him.
type wakeDeed struct {
	what string
	e    impl.Eng
	ch   int
	w    impl.Waiter
	v    int
	ok   bool
	done func(e *impl.Eng)
}

func TestWakeOneByOne(t *testing.T) {
	for _, x := range []wakeDeed{
		{"receives a value", opEng(opSet, opRecv1), 1, impl.Waiter{G: 1, Case: -1}, 77, true, func(e *impl.Eng) {
			goes(e, 1, opRecv1+1, gotItem(1, 77))
			regs(e, 1, 4, 77, 3, 1)
			e.Chans[1].Recvs = nil
		}},
		{"receives the value 0", opEng(opSet, opRecv1), 1, impl.Waiter{G: 1, Case: -1}, 0, true, func(e *impl.Eng) {
			goes(e, 1, opRecv1+1, gotItem(1, 0))
			regs(e, 1, 4, 0, 3, 1)
			e.Chans[1].Recvs = nil
		}},
		{"receives the greatest value", opEng(opSet, opRecv2), 2, impl.Waiter{G: 1, Case: -1}, 999, true, func(e *impl.Eng) {
			goes(e, 1, opRecv2+1, gotItem(2, 999))
			regs(e, 1, 5, 999, 5, 1)
			e.Chans[2].Recvs = nil
		}},
		{"receives nothing that was sent", opEng(opSet, opRecv1), 1, impl.Waiter{G: 1, Case: -1}, 77, false, func(e *impl.Eng) {
			goes(e, 1, opRecv1+1, zeroItem(1))
			regs(e, 1, 4, 0, 3, 0)
			e.Chans[1].Recvs = nil
		}},
		{"receives by a select", opEng(opSet, opSelect1), 1, impl.Waiter{G: 1, Case: 1}, 77, true, func(e *impl.Eng) {
			goes(e, 1, 36, pickedItem(1, 1), gotItem(1, 77))
			regs(e, 1, 5, 77, 0, 1)
			e.Chans[0].Sends, e.Chans[1].Recvs, e.Chans[2].Sends = nil, nil, nil
		}},
		{"receives nothing that was sent, by a select", opEng(opSet, opSelect5), 1, impl.Waiter{G: 1, Case: 1}, 999, false, func(e *impl.Eng) {
			goes(e, 1, 28, pickedItem(5, 1), zeroItem(1))
			regs(e, 1, 0, 0, 1, 0)
			e.Chans[0].Sends, e.Chans[1].Recvs = nil, nil
		}},
		{"sends", opEng(opSet, opSend1), 1, impl.Waiter{G: 1, Case: -1, Val: 140}, 77, true, func(e *impl.Eng) {
			goes(e, 1, opSend1+1, sentItem(1, 140))
			e.Chans[1].Sends = nil
		}},
		{"sends where it was closed", opEng(opSet, opSend1), 1, impl.Waiter{G: 1, Case: -1, Val: 140}, 77, false, func(e *impl.Eng) {
			dies(e, 1, impl.WyClosed)
			e.Chans[1].Sends = nil
		}},
		{"sends by a select", opEng(opSet, opSelect5), 0, impl.Waiter{G: 1, Case: 2, Val: 130}, 0, true, func(e *impl.Eng) {
			goes(e, 1, 27, pickedItem(5, 2), sentItem(0, 130))
			e.Chans[0].Sends, e.Chans[1].Recvs = nil, nil
		}},
		{"sends by a select where it was closed", opEng(opSet, opSelect0), 1, impl.Waiter{G: 1, Case: 1, Val: 140}, 999, false, func(e *impl.Eng) {
			dies(e, 1, impl.WyClosed, pickedItem(0, 1))
			e.Chans[0].Recvs, e.Chans[1].Sends, e.Chans[2].Recvs = nil, nil, nil
		}},
		{"not the first one of several", opEng(opSet, opRecv0, opSelect0, opRecv0, opSelect0), 0, impl.Waiter{G: 4, Case: 0}, 5, true, func(e *impl.Eng) {
			goes(e, 4, 31, pickedItem(0, 0), gotItem(0, 5))
			regs(e, 4, 1, 5, 2, 1)
			e.Chans[0].Recvs = e.Chans[0].Recvs[:3]
			e.Chans[1].Sends = e.Chans[1].Sends[:1]
			e.Chans[2].Recvs = e.Chans[2].Recvs[:1]
		}},
		{"one in the middle", opEng(opSet, opSend0, opSelect1, opSend0), 0, impl.Waiter{G: 2, Case: 0, Val: 250}, 5, true, func(e *impl.Eng) {
			goes(e, 2, 35, pickedItem(1, 0), sentItem(0, 250))
			e.Chans[0].Sends = []impl.Waiter{{G: 1, Case: -1, Val: 120}, {G: 3, Case: -1, Val: 320}}
			e.Chans[1].Recvs, e.Chans[2].Sends = nil, nil
		}},
	} {
		want := copyEng(x.e)
		x.done(&want)
		got, ok := impl.Wake(opProg(), x.e, x.ch, x.w, x.v, x.ok)
		if !ok || !sameEng(got, want) {
			t.Errorf("%s: %+v, %v, not %+v", x.what, got, ok, want)
		}
		if !impl.EngOk(opProg(), got) {
			t.Errorf("%s: %+v isn't right", x.what, got)
		}
	}
}

// Who waits in another way isn't woken: at another channel, by another case, with another value, or on the other side.
func TestWakeOfNone(t *testing.T) {
	plain, picks := opEng(opSet, opSend1, opRecv0, opLock0, opSendNil), opEng(opSet, opSelect0)
	plain.Mus[0].Owner = 0
	far := []int{math.MinInt, -1 << 32, -2, -1, 2, 3, 4, 5, 1 << 32, math.MaxInt}
	none := func(what string, e impl.Eng, ch int, w impl.Waiter, v int) {
		t.Helper()
		for _, ok := range []bool{true, false} {
			if got, done := impl.Wake(opProg(), e, ch, w, v, ok); done || !sameEng(got, impl.Eng{}) {
				t.Errorf("%s: %+v is woken at %d with %d, %v", what, w, ch, v, ok)
			}
		}
	}
	sends, receives, locks := impl.Waiter{G: 1, Case: -1, Val: 140}, impl.Waiter{G: 2, Case: -1}, impl.Waiter{G: 3, Case: -1}
	if !wantEngOk(opProg(), true, plain) || !wantEngOk(opProg(), true, picks) {
		t.Fatal("the engines aren't right")
	}
	for _, ch := range append(far, 0) {
		none("another channel", plain, ch, sends, 5)
	}
	for _, ch := range append(far, 1) {
		none("another channel", plain, ch, receives, 5)
		none("at a mutex", plain, ch, locks, 5)
		none("at a nil channel", plain, ch, impl.Waiter{G: 4, Case: -1, Val: 430}, 5)
		none("at a nil channel", plain, ch, impl.Waiter{G: 4, Case: -1}, 5)
	}
	none("at a mutex", plain, 0, locks, 5)
	for _, n := range []int{math.MinInt, -1 << 32, -1, 0, 3, 4, 5, 6, 1 << 32, 1<<32 + 1, math.MaxInt} {
		none("another one", plain, 1, impl.Waiter{G: n, Case: -1, Val: 140}, 5)
		none("another one", plain, 0, impl.Waiter{G: n, Case: -1}, 5)
	}
	for _, number := range []int{math.MinInt, -3, -2, 0, 1, 2, 4, math.MaxInt} {
		none("a case of none", plain, 1, impl.Waiter{G: 1, Case: number, Val: 140}, 5)
		none("a case of none", plain, 0, impl.Waiter{G: 2, Case: number}, 5)
	}
	for _, number := range []int{math.MinInt, -1, 0, 2, 3, 4, 5, math.MaxInt} {
		none("another case", picks, 1, impl.Waiter{G: 1, Case: number, Val: 140}, 5)
	}
	for _, val := range []int{math.MinInt, -1, 0, 1, 139, 141, 999, 1000, math.MaxInt} {
		none("another value", plain, 1, impl.Waiter{G: 1, Case: -1, Val: val}, 5)
		none("another value", picks, 1, impl.Waiter{G: 1, Case: 1, Val: val}, 5)
		if val != 0 {
			none("one that receives, with a value", plain, 0, impl.Waiter{G: 2, Case: -1, Val: val}, 5)
		}
	}
	for _, v := range []int{math.MinInt, -1 << 32, -999, -1, 1000, 1001, 1 << 32, 1<<32 + 7, math.MaxInt} {
		none("no value", plain, 1, sends, v)
		none("no value", plain, 0, receives, v)
		none("no value", picks, 0, impl.Waiter{G: 1, Case: 0}, v)
		none("no value", picks, 1, impl.Waiter{G: 1, Case: 1, Val: 140}, v)
	}
	none("nothing of a waiter", plain, 0, impl.Waiter{}, 0)
}

// Who doesn't wait isn't woken, in whatever state; nor is one whose engine isn't right for that.
func TestWakeOfStates(t *testing.T) {
	for state := range 6 {
		for _, stands := range []bool{true, false} {
			e := opEng(opSet, opRecv1)
			e.Gs[1] = inState(actor(1, opRecv1), state)
			if !stands {
				e.Chans[1].Recvs = nil
			}
			got, ok := impl.Wake(opProg(), e, 1, impl.Waiter{G: 1, Case: -1}, 5, true)
			if want := state == impl.GsWait && stands; ok != want || !ok && !sameEng(got, impl.Eng{}) {
				t.Errorf("in the state %d, standing there %v: %v", state, stands, ok)
			}
		}
	}
}

// Of all waiters with these parts, at all these channels, just those that wait there are woken.
func TestWakeOfAllParts(t *testing.T) {
	p := opProg()
	for _, e := range []impl.Eng{opEng(opSet, opSelect0, opRecv0, opSend1, opLock0, opSelectNil), opEng(opRecv1, opSelect5, opSend0, opSelect1, opRecv1), opEng(opSend0, opRecv0)} {
		e.Mus[0].Owner = 0
		if !wantEngOk(p, true, e) {
			t.Fatalf("%+v isn't right", e)
		}
		vals := []int{0, 1}
		for _, x := range foundPlaces(e) {
			vals = append(vals, x.W.Val)
		}
		woken := 0
		for ch := -2; ch < 4; ch++ {
			for n := -1; n <= len(e.Gs); n++ {
				for number := -2; number < 5; number++ {
					for _, val := range vals {
						for at, v := range []int{0, 5, 999, -1, 1000} {
							if tryWake(t, p, true, e, ch, impl.Waiter{G: n, Case: number, Val: val}, v, at%2 == 0) {
								woken++
							}
						}
					}
				}
			}
		}
		if woken == 0 {
			t.Errorf("nobody was woken in %+v", e)
		}
	}
}

// spoilt is e as it is or spoilt in one way.
func spoilt(roll func(int) int, e impl.Eng) impl.Eng {
	d := copyEng(e)
	spoils := []func(func(int) int, *impl.Eng){spoilChanOf, spoilMutexOf, spoilGorOf}
	spoils[roll(3)](roll, &d)
	return d
}

func TestOpOfAnyEngs(t *testing.T) {
	roll := dice()
	done, woken, wrong := 0, 0, 0
	for round := range 8000 {
		p := []impl.Prog{opProg(), waitProg(), fourProg(roll(5) - 1), anyProg(roll)}[round%4]
		e := anyEng(roll, p)
		if roll(5) == 0 {
			e = spoilt(roll, e)
		}
		right := wantEngOk(p, true, e)
		if !right {
			wrong++
		}
		for n := -1; n <= len(e.Gs); n++ {
			trySteps(t, p, true, e, n)
			if _, there := wantDoShared(p, true, e, n, 0); there != 0 {
				done++
			}
		}
		for _, x := range foundPlaces(e) {
			v, ok := roll(1002)-1, roll(2) == 0
			if tryWake(t, p, true, e, x.Obj, x.W, v, ok) {
				woken++
			}
			x.W.Case += roll(3) - 1
			x.W.Val += roll(3) - 1
			tryWake(t, p, true, e, x.Obj+roll(2), x.W, v, ok)
		}
	}
	if done < 4000 || woken < 1000 || wrong < 200 {
		t.Errorf("%d steps were done, %d were woken, and %d engines were wrong", done, woken, wrong)
	}
}

// Runs from the beginning of a program, by shared steps and local ones: each engine is right, and no trace loses anything.
func TestOpRuns(t *testing.T) {
	roll := dice()
	steps := 0
	for round := range 1200 {
		p := anyProg(roll)
		if round%3 == 0 {
			p = opProg()
			p.Procs[0] = p.Procs[1]
		}
		e := impl.EngNew(p)
		for range 60 {
			ready := impl.Ready(e)
			if len(ready) == 0 {
				break
			}
			n := ready[roll(len(ready))]
			if g, ok := impl.StepLocal(p, e.Gs[n]); ok {
				e = copyEng(e)
				e.Gs[n] = g
				continue
			}
			choice := roll(9) - 4
			next, chosen := impl.DoShared(p, e, n, choice)
			want, code := wantDoShared(p, true, e, n, choice)
			if !sameEng(next, want) || chosen != code || !impl.EngOk(p, next) {
				t.Fatalf("DoShared of %d in %+v = %+v, %d, not %+v, %d", n, e, next, chosen, want, code)
			}
			if waits := next.Gs[n].State == impl.GsWait; waits != impl.Blocks(p, e, n) {
				t.Fatalf("the goroutine %d of %+v waits: %v, but Blocks is %v", n, e, waits, !waits)
			}
			for k, g := range e.Gs {
				if len(next.Gs[k].Trace) < len(g.Trace) || !slices.Equal(next.Gs[k].Trace[:len(g.Trace)], g.Trace) {
					t.Fatalf("the trace of %d: %+v, then %+v", k, g.Trace, next.Gs[k].Trace)
				}
			}
			e = next
			steps++
		}
	}
	if steps < 3000 {
		t.Errorf("only %d shared steps", steps)
	}
}

// What several send is received in the order in which it was sent, whether they wait or not.
func TestOpValuesInOrder(t *testing.T) {
	roll := dice()
	for room := range 5 {
		p := impl.Prog{
			Caps: []int{room},
			Sels: []impl.Select{{Cases: []impl.Case{{Send: true, Chan: 0, Reg: 0, To: 2}, {Chan: -1, To: 2}}, Else: -1}, {Cases: []impl.Case{{Chan: 0, Reg: 1, Ok: 2, To: 2}}, Else: -1}},
			Procs: []impl.Proc{
				{Code: []impl.Instr{{Op: impl.OpSend, A: 0, B: 0}, {Op: impl.OpSelect, A: 0}, {Op: impl.OpHalt}}},
				{Code: []impl.Instr{{Op: impl.OpRecv, A: 0, B: 1, C: 2}, {Op: impl.OpSelect, A: 1}, {Op: impl.OpHalt}}},
			},
		}
		for range 100 {
			e := plainEng(p)
			e.Gs = nil
			for n := range 10 {
				g := impl.GorNew(n%2, 100+n)
				g.Pc = roll(2)
				e.Gs = append(e.Gs, g)
			}
			var came, went []int
			for range 10 {
				ready := slices.DeleteFunc(impl.Ready(e), func(n int) bool { return e.Gs[n].Pc == 2 || len(e.Gs[n].Trace) > 0 })
				if len(ready) == 0 {
					break
				}
				n := ready[roll(len(ready))]
				if n%2 == 0 {
					came = append(came, 100+n)
				} else {
					went = append(went, n)
				}
				e, _ = impl.DoShared(p, e, n, 0)
			}
			for k, n := range went[:min(len(went), len(came))] {
				if got := impl.Reg(e.Gs[n], 1); got != came[k] || impl.Reg(e.Gs[n], 2) != 1 {
					t.Fatalf("with room for %d: %v were sent and %v received, but %d received %d", room, came, went, n, got)
				}
			}
		}
	}
}

// A mutex goes to those that wait in their order, and has one owner at each time.
func TestOpMutexInOrder(t *testing.T) {
	roll := dice()
	p := someCode(impl.Instr{Op: impl.OpLock}, impl.Instr{Op: impl.OpUnlock}, impl.Instr{Op: impl.OpHalt})
	for range 200 {
		e := plainEng(p)
		e.Gs = slices.Repeat([]impl.Gor{impl.GorNew(0, 0)}, 10)
		var came, had []int
		for range 20 {
			ready := slices.DeleteFunc(impl.Ready(e), func(n int) bool { return e.Gs[n].Pc == 2 })
			n := ready[roll(len(ready))]
			if e.Gs[n].Pc == 0 {
				came = append(came, n)
			} else {
				had = append(had, n)
			}
			e, _ = impl.DoShared(p, e, n, 0)
			owners := 0
			for _, g := range e.Gs {
				if g.Pc == 1 {
					owners++
				}
			}
			if owners > 1 {
				t.Fatalf("%d have it in %+v", owners, e)
			}
		}
		if !slices.Equal(came, had) || len(had) != 10 {
			t.Fatalf("it was wanted in the order %v, and had in the order %v", came, had)
		}
	}
}

// opAnswer is what one call of the layer answers; what isn't answered is left zero.
type opAnswer struct {
	e  impl.Eng
	n  int
	ok bool
}

func sameOp(a, b opAnswer) bool {
	return sameEng(a.e, b.e) && a.n == b.n && a.ok == b.ok
}

type opCall struct {
	what string
	call func(p impl.Prog, e impl.Eng) opAnswer
}

// opCalls take their waiters from where they are found in the engine.
func opCalls() []opCall {
	var l []opCall
	for _, n := range []int{-1, 0, 1, 5} {
		for _, choice := range []int{0, 1} {
			l = append(l, opCall{"DoShared", func(p impl.Prog, e impl.Eng) opAnswer {
				d, chosen := impl.DoShared(p, e, n, choice)
				return opAnswer{e: d, n: chosen}
			}})
		}
	}
	for at := range 4 {
		l = append(l, opCall{"Wake", func(p impl.Prog, e impl.Eng) opAnswer {
			places := append(foundPlaces(e), recvPlace(0, -1))
			x := places[at*5%len(places)]
			d, ok := impl.Wake(p, e, x.Obj, x.W, 7, at%2 == 0)
			return opAnswer{e: d, ok: ok}
		}})
	}
	return l
}

// opEngs are some of waitProg, in which the goroutine 0 has each of the shared instructions to do.
func opEngs() []impl.Eng {
	l := []impl.Eng{{}, sleepyEng(), plainEng(fullProg())}
	roll := dice()
	for round := range 60 {
		e := anyEng(roll, waitProg())
		if round%4 == 0 {
			e = spoilt(roll, e)
		}
		l = append(l, e)
	}
	for _, k := range chanKinds() {
		for _, pc := range []int{atSend1, atRecv0, atRecv1, atSelect0, atSelect1, atSelectElse} {
			l = append(l, k.engOf(pc))
		}
		e := k.engOf(atHalt)
		for _, pc := range []int{7, 11, 12} {
			e = copyEng(e)
			e.Gs[0] = atPlace(pc)
			l = append(l, e)
		}
	}
	for pc := 9; pc <= 10; pc++ {
		for owner := -1; owner < 2; owner++ {
			e := plainEng(waitProg())
			e.Gs = []impl.Gor{atPlace(pc), comer(atHalt)}
			e.Mus[0].Owner = owner
			l = append(l, e)
		}
	}
	e := sleepyEng()
	e.Gs[0] = atPlace(10)
	return append(l, e)
}

func TestOpLeavesArguments(t *testing.T) {
	for _, e := range opEngs() {
		for _, x := range opCalls() {
			for _, p := range []impl.Prog{waitProg(), fullProg(), {}} {
				kept := copyProg(p)
				d, same := roomyEng(e)
				x.call(p, d)
				if !same() || !sameProg(p, kept) {
					t.Fatalf("%s changes %+v or %+v", x.what, e, p)
				}
			}
		}
	}
}

func TestOpAnswersAreNewMemory(t *testing.T) {
	for _, e := range opEngs() {
		for _, x := range opCalls() {
			p := waitProg()
			want := x.call(waitProg(), e)
			want.e = copyEng(want.e)
			d, same := roomyEng(e)
			first, second := x.call(p, d), x.call(p, d)
			spoilEng(first.e)
			if !same() || !sameProg(p, waitProg()) {
				t.Fatalf("%s of %+v: the answer shares memory with an argument", x.what, e)
			}
			if !sameOp(second, want) {
				t.Fatalf("%s of %+v: two answers share memory", x.what, e)
			}
			spoilEng(d)
			spoilProg(p)
			if !sameOp(second, want) {
				t.Fatalf("%s of %+v: the answer changes with an argument", x.what, e)
			}
		}
	}
}

// grown is e with something more in the k-th of all its lists, and how many lists there are.
func grown(e *impl.Eng, k int) int {
	n := 0
	here := func() bool { n++; return n-1 == k }
	for at := range e.Gs {
		if here() {
			e.Gs[at].Regs = append(e.Gs[at].Regs, 555)
		}
		if here() {
			e.Gs[at].Trace = append(e.Gs[at].Trace, impl.Item{Kind: 555})
		}
	}
	for at := range e.Chans {
		c := &e.Chans[at]
		if here() {
			c.Buf = append(c.Buf, 555)
		}
		if here() {
			c.Sends = append(c.Sends, impl.Waiter{G: 555})
		}
		if here() {
			c.Recvs = append(c.Recvs, impl.Waiter{G: 555})
		}
	}
	for at := range e.Mus {
		if here() {
			e.Mus[at].Wait = append(e.Mus[at].Wait, 555)
		}
	}
	return n
}

// What is joined to one list of an answer is seen in no other one, also where a list was cut off ahead.
func TestOpListsAreApart(t *testing.T) {
	for _, e := range opEngs() {
		for _, x := range opCalls() {
			lists := grown(&impl.Eng{}, -1)
			if got := x.call(waitProg(), e); len(got.e.Gs) > 0 {
				lists = grown(&got.e, -1)
			}
			for k := range lists {
				got := x.call(waitProg(), e).e
				want := copyEng(got)
				grown(&got, k)
				grown(&want, k)
				if !sameEng(got, want) {
					t.Fatalf("%s of %+v: %+v, not %+v", x.what, e, got, want)
				}
			}
		}
	}
}

func TestOpOfNilAndEmptyLists(t *testing.T) {
	bare := impl.Prog{Procs: []impl.Proc{{Code: []impl.Instr{{Op: impl.OpSend, A: -1}, {Op: impl.OpHalt}}}}}
	other := impl.Prog{Sels: []impl.Select{{Else: 1}}, Procs: []impl.Proc{{Code: []impl.Instr{{Op: impl.OpSelect}, {Op: impl.OpHalt}}}}}
	for _, p := range []impl.Prog{waitProg(), bare, other, {Procs: []impl.Proc{{}}}, {}} {
		for _, e := range append(opEngs(), plainEng(bare), plainEng(other)) {
			for _, x := range opCalls() {
				want := x.call(p, e)
				if got := x.call(turnedProg(p), turnedEng(e)); !sameOp(got, want) {
					t.Fatalf("%s of %+v: %+v with nil and empty lists exchanged, not %+v", x.what, e, got, want)
				}
			}
		}
	}
	for _, p := range []impl.Prog{bare, turnedProg(bare)} {
		if got, chosen := impl.DoShared(p, turnedEng(plainEng(p)), 0, 0); chosen != impl.NoCase || len(got.Gs) != 1 || got.Gs[0].State != impl.GsWait || len(got.Chans) != 0 {
			t.Errorf("without channels: %+v, %d", got, chosen)
		}
	}
}

// One step leaves nothing behind for the next call, and the same is answered each time.
func TestOpKeepsNothing(t *testing.T) {
	all := opEngs()
	for at, e := range all {
		for _, x := range opCalls() {
			want := x.call(waitProg(), e)
			want.e = copyEng(want.e)
			for _, y := range opCalls() {
				y.call(fullProg(), all[(at+1)%len(all)])
				y.call(waitProg(), sleepyEng())
			}
			for range 3 {
				if got := x.call(waitProg(), e); !sameOp(got, want) {
					t.Fatalf("%s of %+v: %+v behind other calls, not %+v", x.what, e, got, want)
				}
			}
		}
	}
}
