package tests

import (
	"math"
	"slices"
	"testing"

	"loop.example/g00679/impl"
)

// mostBurnt is the document's bound of Burn, which has no constant there.
const mostBurnt = 2000

func wantIsLocal(p impl.Prog, right bool, g impl.Gor) bool {
	if !wantGorOk(p, right, g) || g.State != 1 {
		return false
	}
	op := p.Procs[g.Proc].Code[g.Pc].Op
	return op >= 1 && op <= 7
}

// wantStepLocal follows the document's words for each of the seven local instructions.
func wantStepLocal(p impl.Prog, right bool, g impl.Gor) (impl.Gor, bool) {
	if !wantIsLocal(p, right, g) {
		return impl.Gor{}, false
	}
	i := p.Procs[g.Proc].Code[g.Pc]
	d := copyGor(g)
	switch i.Op {
	case 1:
		return wantOver(g, 0), true
	case 2:
		d.Regs[i.A] = i.B
	case 3, 4, 5:
		d.Regs[i.A] = wantCalc(i.Op, g.Regs[i.B], g.Regs[i.C])
	case 6:
		d.Pc = i.A
		return d, true
	case 7:
		if g.Regs[i.A] != 0 {
			d.Pc = i.B
			return d, true
		}
	}
	d.Pc++
	return d, true
}

func wantBurn(p impl.Prog, right bool, g impl.Gor, most int) (impl.Gor, int) {
	if !wantGorOk(p, right, g) {
		return impl.Gor{}, 0
	}
	steps := 0
	for steps < most && steps < mostBurnt {
		next, ok := wantStepLocal(p, right, g)
		if !ok {
			break
		}
		g = next
		steps++
	}
	return g, steps
}

func wantNextShared(p impl.Prog, right bool, g impl.Gor) (impl.Instr, bool) {
	d, _ := wantBurn(p, right, g, 500)
	if !right || d.State != 1 || p.Procs[d.Proc].Code[d.Pc].Op < 8 {
		return impl.Instr{}, false
	}
	return p.Procs[d.Proc].Code[d.Pc], true
}

// burnMosts are at, below and above all bounds, and far out.
func burnMosts() []int {
	return []int{math.MinInt, math.MinInt + 1, -1 << 32, -2000, -1, 0, 1, 2, 3, 4, 5, 499, 500, 501, 1999, 2000, 2001, 1 << 32, 1<<32 + 1, math.MaxInt - 1, math.MaxInt}
}

// tryLocal holds all of the chapter against its words.
func tryLocal(t *testing.T, p impl.Prog, right bool, g impl.Gor, mosts []int) {
	t.Helper()
	if got, want := impl.IsLocal(p, g), wantIsLocal(p, right, g); got != want {
		t.Fatalf("IsLocal of %+v is %v", g, got)
	}
	d, ok := impl.StepLocal(p, g)
	if want, there := wantStepLocal(p, right, g); ok != there || !sameGor(d, want) {
		t.Fatalf("StepLocal of %+v = %+v, %v, not %+v, %v", g, d, ok, want, there)
	}
	for _, most := range mosts {
		d, steps := impl.Burn(p, g, most)
		if want, n := wantBurn(p, right, g, most); steps != n || !sameGor(d, want) {
			t.Fatalf("Burn of %+v with %d = %+v, %d, not %+v, %d", g, most, d, steps, want, n)
		}
	}
	i, ok := impl.NextShared(p, g)
	if want, there := wantNextShared(p, right, g); ok != there || i != want {
		t.Fatalf("NextShared of %+v = %+v, %v, not %+v, %v", g, i, ok, want, there)
	}
}

// isNothing tells whether all of the chapter answers nothing.
func isNothing(p impl.Prog, g impl.Gor) bool {
	d, ok := impl.StepLocal(p, g)
	if impl.IsLocal(p, g) || ok || !sameGor(d, impl.Gor{}) {
		return false
	}
	for _, most := range burnMosts() {
		if d, steps := impl.Burn(p, g, most); steps != 0 || !sameGor(d, impl.Gor{}) {
			return false
		}
	}
	i, ok := impl.NextShared(p, g)
	return !ok && i == impl.Instr{}
}

// inState gives g the state, and the end of its trace that the state asks for.
func inState(g impl.Gor, state int) impl.Gor {
	d := copyGor(g)
	d.State = state
	switch state {
	case impl.GsDone:
		d.Trace = append(d.Trace, impl.Item{Kind: impl.ItDone})
	case impl.GsDead:
		d.Trace = append(d.Trace, impl.Item{Kind: impl.ItDead, Val: impl.WyOwner})
	}
	return d
}

// atPlace is a right goroutine of waitProg at a place of its procedure 0, in which each of the fifteen instructions stands.
func atPlace(pc int) impl.Gor {
	return impl.Gor{Pc: pc, Regs: []int{1, 2, 3, 4, 5, 6}, State: impl.GsReady, Trace: []impl.Item{{Kind: impl.ItGot, Obj: 1, Val: 9, Ok: true}, {Kind: impl.ItPrinted, Val: 4}}}
}

// someCode is a program of this one procedure, with one channel, one mutex and one select.
func someCode(code ...impl.Instr) impl.Prog {
	return impl.Prog{Caps: []int{1}, Mus: 1, Sels: []impl.Select{{Else: 0}}, Procs: []impl.Proc{{Code: code}}}
}

// behind is a program and a goroutine in it that has just n local steps to do, from 0 to 2001, and stands at i then.
func behind(n int, i impl.Instr) (impl.Prog, impl.Gor) {
	p := someCode(
		impl.Instr{Op: impl.OpSet, A: 4, B: 77},
		impl.Instr{Op: impl.OpSub, A: 1, B: 1, C: 2},
		impl.Instr{Op: impl.OpIf, A: 1, B: 1},
		i,
		impl.Instr{Op: impl.OpHalt},
	)
	// Each round in the circle takes two steps; one that begins with 0 in the register goes round 1000 times.
	g := impl.Gor{Pc: 1 - n%2, Regs: []int{0, n / 2 % 1000, 1, 0, 0, 0}, State: impl.GsReady}
	switch n {
	case 0:
		g.Pc = 3
	case 1:
		g.Pc = 2
	}
	return p, g
}

// sharedInstrs are the eight shared instructions, all right in someCode.
func sharedInstrs() []impl.Instr {
	return []impl.Instr{
		{Op: impl.OpSend, A: 0, B: 3}, {Op: impl.OpRecv, A: -1, B: 5, C: 2}, {Op: impl.OpClose, A: -1}, {Op: impl.OpSelect},
		{Op: impl.OpLock}, {Op: impl.OpUnlock}, {Op: impl.OpSpawn, B: 4}, {Op: impl.OpPrint, A: 1},
	}
}

// circles are programs that never come to a shared instruction and never end.
func circles() []impl.Prog {
	return []impl.Prog{
		someCode(impl.Instr{Op: impl.OpJump}),
		someCode(impl.Instr{Op: impl.OpAdd, A: 1, B: 1, C: 0}, impl.Instr{Op: impl.OpJump}),
		someCode(impl.Instr{Op: impl.OpIf, A: 0, B: 0}, impl.Instr{Op: impl.OpHalt}),
		someCode(impl.Instr{Op: impl.OpSub, A: 1, B: 1, C: 0}, impl.Instr{Op: impl.OpIf, A: 0, B: 3}, impl.Instr{Op: impl.OpPrint}, impl.Instr{Op: impl.OpSet, A: 3, B: 999}, impl.Instr{Op: impl.OpJump}),
	}
}

func TestLocalConstants(t *testing.T) {
	if impl.MaxBurn != 500 {
		t.Errorf("MaxBurn is %d", impl.MaxBurn)
	}
}

// Each instruction in each state, with the end of its trace that the state asks for and without it.
func TestIsLocalOfTheFifteen(t *testing.T) {
	p := waitProg()
	for pc, i := range p.Procs[0].Code {
		for state := range 6 {
			want := state == impl.GsReady && i.Op <= impl.OpIf
			if got := impl.IsLocal(p, inState(atPlace(pc), state)); got != want {
				t.Errorf("%s in the state %d: IsLocal is %v", impl.OpWord(i.Op), state, got)
			}
			g := atPlace(pc)
			g.State = state
			if got := impl.IsLocal(p, g); got != want {
				t.Errorf("%s in the state %d, with its trace as it was: IsLocal is %v", impl.OpWord(i.Op), state, got)
			}
		}
	}
}

// All that the chapter answers at each instruction in each state.
func TestLocalOfTheFifteen(t *testing.T) {
	p := waitProg()
	for proc := range p.Procs {
		for pc := range len(p.Procs[proc].Code) + 1 {
			for state := range 6 {
				g := atPlace(pc)
				g.Proc = proc
				tryLocal(t, p, true, inState(g, state), burnMosts())
				g.State = state
				tryLocal(t, p, true, g, burnMosts())
			}
		}
	}
}

func TestLocalOfWrongGors(t *testing.T) {
	done, dead := impl.Item{Kind: impl.ItDone}, impl.Item{Kind: impl.ItDead, Val: 1}
	for _, x := range []struct {
		what string
		do   func(g *impl.Gor)
	}{
		{"nothing of it", func(g *impl.Gor) { *g = impl.Gor{} }},
		{"a procedure below 0", func(g *impl.Gor) { g.Proc = -1 }},
		{"a procedure that isn't there", func(g *impl.Gor) { g.Proc = 2 }},
		{"the greatest procedure", func(g *impl.Gor) { g.Proc = math.MaxInt }},
		{"the least procedure", func(g *impl.Gor) { g.Proc = math.MinInt }},
		{"a place below 0", func(g *impl.Gor) { g.Pc = -1 }},
		{"a place beyond the last", func(g *impl.Gor) { g.Pc = 15 }},
		{"the greatest place", func(g *impl.Gor) { g.Pc = math.MaxInt }},
		{"the least place", func(g *impl.Gor) { g.Pc = math.MinInt }},
		{"no registers", func(g *impl.Gor) { g.Regs = nil }},
		{"an empty list of registers", func(g *impl.Gor) { g.Regs = []int{} }},
		{"a register too few", func(g *impl.Gor) { g.Regs = g.Regs[:5] }},
		{"a register too many", func(g *impl.Gor) { g.Regs = append(g.Regs, 0) }},
		{"a first register of 1000", func(g *impl.Gor) { g.Regs[0] = 1000 }},
		{"a last register of -1", func(g *impl.Gor) { g.Regs[5] = -1 }},
		{"a register far out", func(g *impl.Gor) { g.Regs[2] = math.MaxInt }},
		{"a register far below", func(g *impl.Gor) { g.Regs[2] = math.MinInt }},
		{"a state of 0", func(g *impl.Gor) { g.State = 0 }},
		{"a state of 5", func(g *impl.Gor) { g.State = 5 }},
		{"a state of -1", func(g *impl.Gor) { g.State = -1 }},
		{"the greatest state", func(g *impl.Gor) { g.State = math.MaxInt }},
		{"ready, but its trace has an end", func(g *impl.Gor) { g.Trace = append(g.Trace, done) }},
		{"ready, but it died", func(g *impl.Gor) { g.Trace = append(g.Trace, dead) }},
		{"ready behind an end", func(g *impl.Gor) { g.Trace[0] = done }},
		{"done without an end", func(g *impl.Gor) { g.State = impl.GsDone }},
		{"dead without an end", func(g *impl.Gor) { g.State = impl.GsDead }},
		{"an item that isn't right", func(g *impl.Gor) { g.Trace[1].Val = 1000 }},
		{"an item of nothing", func(g *impl.Gor) { g.Trace[0] = impl.Item{} }},
	} {
		for pc, i := range waitProg().Procs[0].Code {
			g := atPlace(pc)
			x.do(&g)
			if !isNothing(waitProg(), g) {
				t.Errorf("%s, at %s: not nothing", x.what, impl.OpWord(i.Op))
			}
		}
	}
}

func TestLocalOfWrongProgs(t *testing.T) {
	places := func(what string, p impl.Prog) {
		for proc := range 3 {
			for pc := range 11 {
				g := atPlace(pc)
				g.Proc = proc
				if !isNothing(p, g) {
					t.Errorf("%s, at the place %d of the procedure %d: not nothing", what, pc, proc)
				}
			}
		}
	}
	for _, x := range wrongChanges() {
		p := fullProg()
		x.do(&p)
		places(x.what, p)
	}
	places("nothing of a program", impl.Prog{})
	places("a procedure that ends with a set", someCode(impl.Instr{Op: impl.OpSet, A: 1, B: 1}))
	places("a procedure of no instructions", impl.Prog{Procs: []impl.Proc{{}}})
	if !isNothing(impl.Prog{}, impl.Gor{}) {
		t.Error("a goroutine of nothing in a program of nothing: not nothing")
	}
}

// stepCode has each of the local instructions; the places are those of TestStepLocalOneByOne.
func stepCode() impl.Prog {
	return someCode(
		impl.Instr{Op: impl.OpHalt},
		impl.Instr{Op: impl.OpSet, A: 0, B: 999},
		impl.Instr{Op: impl.OpSet, A: 5, B: 0},
		impl.Instr{Op: impl.OpAdd, A: 3, B: 1, C: 2},
		impl.Instr{Op: impl.OpAdd, A: 4, B: 4, C: 4},
		impl.Instr{Op: impl.OpSub, A: 3, B: 2, C: 1},
		impl.Instr{Op: impl.OpSub, A: 3, B: 1, C: 2},
		impl.Instr{Op: impl.OpLess, A: 3, B: 1, C: 2},
		impl.Instr{Op: impl.OpLess, A: 3, B: 2, C: 1},
		impl.Instr{Op: impl.OpLess, A: 3, B: 2, C: 2},
		impl.Instr{Op: impl.OpIf, A: 1, B: 15},
		impl.Instr{Op: impl.OpIf, A: 5, B: 15},
		impl.Instr{Op: impl.OpIf, A: 1, B: 12},
		impl.Instr{Op: impl.OpIf, A: 1, B: 0},
		impl.Instr{Op: impl.OpJump, A: 16},
		impl.Instr{Op: impl.OpJump, A: 15},
		impl.Instr{Op: impl.OpJump, A: 0},
	)
}

func TestStepLocalOneByOne(t *testing.T) {
	for pc, x := range []struct {
		what string
		to   int
		regs []int
	}{
		{"halt", 0, []int{7, 10, 30, 40, 600, 0}},
		{"set the first register to the greatest value", 2, []int{999, 10, 30, 40, 600, 0}},
		{"set the last register to 0", 3, []int{7, 10, 30, 40, 600, 0}},
		{"add", 4, []int{7, 10, 30, 40, 600, 0}},
		{"add a register to itself, round behind the greatest value", 5, []int{7, 10, 30, 40, 200, 0}},
		{"sub", 6, []int{7, 10, 30, 20, 600, 0}},
		{"sub the greater from the less", 7, []int{7, 10, 30, 980, 600, 0}},
		{"less", 8, []int{7, 10, 30, 1, 600, 0}},
		{"more", 9, []int{7, 10, 30, 0, 600, 0}},
		{"neither less nor more", 10, []int{7, 10, 30, 0, 600, 0}},
		{"if, where it isn't 0", 15, []int{7, 10, 30, 40, 600, 0}},
		{"if, where it is 0", 12, []int{7, 10, 30, 40, 600, 0}},
		{"if, to itself", 12, []int{7, 10, 30, 40, 600, 0}},
		{"if, back", 0, []int{7, 10, 30, 40, 600, 0}},
		{"jump ahead", 16, []int{7, 10, 30, 40, 600, 0}},
		{"jump to itself", 15, []int{7, 10, 30, 40, 600, 0}},
		{"jump back", 0, []int{7, 10, 30, 40, 600, 0}},
	} {
		trace := []impl.Item{{Kind: impl.ItLocked}, {Kind: impl.ItGot, Obj: 3}}
		want := impl.Gor{Pc: x.to, Regs: x.regs, State: impl.GsReady, Trace: trace}
		if pc == 0 {
			want.State, want.Trace = impl.GsDone, []impl.Item{{Kind: impl.ItLocked}, {Kind: impl.ItGot, Obj: 3}, {Kind: impl.ItDone}}
		}
		g := impl.Gor{Pc: pc, Regs: []int{7, 10, 30, 40, 600, 0}, State: impl.GsReady, Trace: trace}
		got, ok := impl.StepLocal(stepCode(), g)
		if !ok || !sameGor(got, want) {
			t.Errorf("%s: %+v, %v, not %+v", x.what, got, ok, want)
		}
		if !impl.GorOk(stepCode(), got) {
			t.Errorf("%s: %+v isn't right", x.what, got)
		}
	}
}

func TestStepLocalOfNone(t *testing.T) {
	p := waitProg()
	for pc, i := range p.Procs[0].Code {
		for state := 1; state <= 4; state++ {
			got, ok := impl.StepLocal(p, inState(atPlace(pc), state))
			want := state == impl.GsReady && i.Op <= impl.OpIf
			if ok != want || !ok && !sameGor(got, impl.Gor{}) {
				t.Errorf("%s in the state %d: %+v, %v", impl.OpWord(i.Op), state, got, ok)
			}
		}
	}
}

// Each of the three that reckon, between all registers, with values at both ends and in between.
func TestStepLocalReckons(t *testing.T) {
	vals := []int{0, 1, 2, 499, 500, 501, 998, 999}
	for _, op := range []int{impl.OpAdd, impl.OpSub, impl.OpLess} {
		for at := range 6 * 6 * 6 {
			i := impl.Instr{Op: op, A: at / 36, B: at / 6 % 6, C: at % 6}
			p := someCode(i, impl.Instr{Op: impl.OpHalt})
			for k, x := range vals {
				y := vals[(k*5+at)%len(vals)]
				g := impl.GorNew(0, 5)
				g.Regs[i.C] = y
				g.Regs[i.B] = x
				want := slices.Clone(g.Regs)
				want[i.A] = wantCalc(op, x, g.Regs[i.C])
				got, ok := impl.StepLocal(p, g)
				if !ok || got.Pc != 1 || got.State != impl.GsReady || len(got.Trace) != 0 || !slices.Equal(got.Regs, want) {
					t.Fatalf("%s of %v = %+v, %v, not %v", impl.InstrText(i), g.Regs, got, ok, want)
				}
			}
		}
	}
}

func TestStepLocalReckonsAllPairs(t *testing.T) {
	vals := []int{0, 1, 499, 500, 501, 998, 999}
	for _, op := range []int{impl.OpAdd, impl.OpSub, impl.OpLess} {
		p := someCode(impl.Instr{Op: op, A: 0, B: 1, C: 2}, impl.Instr{Op: impl.OpHalt})
		for _, x := range vals {
			for _, y := range vals {
				g := impl.Gor{Regs: []int{3, x, y, 0, 0, 0}, State: impl.GsReady}
				got, ok := impl.StepLocal(p, g)
				if !ok || impl.Reg(got, 0) != wantCalc(op, x, y) || impl.Reg(got, 1) != x || impl.Reg(got, 2) != y {
					t.Errorf("%s of %d and %d: %+v, %v", impl.OpWord(op), x, y, got, ok)
				}
			}
		}
	}
}

func TestStepLocalSets(t *testing.T) {
	for r := range 6 {
		for _, v := range []int{0, 1, 500, 998, 999} {
			p := someCode(impl.Instr{Op: impl.OpSet, A: r, B: v}, impl.Instr{Op: impl.OpHalt})
			g := impl.Gor{Regs: []int{10, 20, 30, 40, 50, 60}, State: impl.GsReady}
			want := []int{10, 20, 30, 40, 50, 60}
			want[r] = v
			if got, ok := impl.StepLocal(p, g); !ok || got.Pc != 1 || !slices.Equal(got.Regs, want) {
				t.Errorf("register %d set to %d: %+v, %v", r, v, got, ok)
			}
		}
	}
}

// From each place a jump and an if lead to each place.
func TestStepLocalGoes(t *testing.T) {
	for from := range 39 {
		for to := range 40 {
			for _, v := range []int{0, 1, 999} {
				code := codeOf(40).Code
				code[from] = impl.Instr{Op: impl.OpIf, A: 3, B: to}
				g := impl.Gor{Pc: from, Regs: []int{0, 0, 0, v, 0, 0}, State: impl.GsReady}
				want := g
				want.Pc = to
				if v == 0 {
					want.Pc = from + 1
				}
				if got, ok := impl.StepLocal(someCode(code...), g); !ok || !sameGor(got, want) {
					t.Fatalf("if from %d to %d with %d: %+v, %v", from, to, v, got, ok)
				}
				code[from] = impl.Instr{Op: impl.OpJump, A: to}
				want.Pc = to
				if got, ok := impl.StepLocal(someCode(code...), g); !ok || !sameGor(got, want) {
					t.Fatalf("jump from %d to %d: %+v, %v", from, to, got, ok)
				}
			}
		}
	}
}

func TestLocalOfAllGors(t *testing.T) {
	p := fullProg()
	met := map[bool]int{}
	for _, g := range allGors() {
		tryLocal(t, p, true, g, []int{-1, 0, 1, 3, math.MaxInt})
		met[impl.IsLocal(p, g)]++
	}
	if met[true] == 0 || met[false] == 0 {
		t.Errorf("only local ones, or none: %v", met)
	}
}

// stepped is StepLocal again and again, as the document tells Burn.
func stepped(p impl.Prog, g impl.Gor, most int) (impl.Gor, int) {
	for n := range max(0, min(most, mostBurnt)) {
		next, ok := impl.StepLocal(p, g)
		if !ok {
			return g, n
		}
		g = next
	}
	return g, max(0, min(most, mostBurnt))
}

func wantStepped(t *testing.T, p impl.Prog, g impl.Gor, most int) {
	t.Helper()
	got, steps := impl.Burn(p, g, most)
	if want, n := stepped(p, g, most); steps != n || !sameGor(got, want) {
		t.Fatalf("Burn of %+v with %d: %+v, %d; StepLocal again and again: %+v, %d", g, most, got, steps, want, n)
	}
	if !impl.GorOk(p, got) {
		t.Fatalf("Burn of %+v with %d: %+v isn't right", g, most, got)
	}
}

func TestBurnIsStepping(t *testing.T) {
	for _, n := range []int{0, 1, 2, 3, 4, 7, 499, 500, 501, 1998, 1999, 2000, 2001} {
		for _, i := range []impl.Instr{{Op: impl.OpHalt}, {Op: impl.OpPrint}, {Op: impl.OpLock}} {
			p, g := behind(n, i)
			for _, most := range append(burnMosts(), n-1, n, n+1, n+2) {
				wantStepped(t, p, g, most)
			}
		}
	}
}

func TestBurnInCircles(t *testing.T) {
	for _, p := range circles() {
		g := impl.GorNew(0, 3)
		tryLocal(t, p, true, g, burnMosts())
		for _, most := range burnMosts() {
			wantStepped(t, p, g, most)
			if _, steps := impl.Burn(p, g, most); steps != max(0, min(most, 2000)) {
				t.Errorf("%d steps of at most %d in a circle", steps, most)
			}
		}
		if i, ok := impl.NextShared(p, g); ok || i != (impl.Instr{}) {
			t.Errorf("in a circle it comes to %+v, %v", i, ok)
		}
	}
}

// Two rounds in the circle are not the same: the register tells how many there were.
func TestBurnCountsRounds(t *testing.T) {
	p := circles()[1]
	for _, x := range []struct {
		most, steps, pc, reg int
	}{
		{math.MinInt, 0, 0, 0}, {-1, 0, 0, 0}, {0, 0, 0, 0}, {1, 1, 1, 1}, {2, 2, 0, 1}, {3, 3, 1, 2}, {100, 100, 0, 50},
		{1998, 1998, 0, 999}, {1999, 1999, 1, 0}, {2000, 2000, 0, 0}, {2001, 2000, 0, 0}, {1 << 40, 2000, 0, 0}, {math.MaxInt, 2000, 0, 0},
	} {
		got, steps := impl.Burn(p, impl.GorNew(0, 1), x.most)
		want := impl.Gor{Pc: x.pc, Regs: []int{1, x.reg, 0, 0, 0, 0}, State: impl.GsReady}
		if steps != x.steps || !sameGor(got, want) {
			t.Errorf("at most %d: %+v, %d, not %+v, %d", x.most, got, steps, want, x.steps)
		}
	}
}

// A halt counts as a step, and is the last one.
func TestBurnHalts(t *testing.T) {
	for _, n := range []int{0, 1, 2, 5, 499, 500, 1998, 1999, 2000, 2001} {
		p, g := behind(n, impl.Instr{Op: impl.OpHalt})
		for _, most := range append(burnMosts(), n-1, n, n+1, n+2) {
			got, steps := impl.Burn(p, g, most)
			if want := max(0, min(most, n+1, 2000)); steps != want {
				t.Errorf("a halt behind %d steps, at most %d: %d steps", n, most, steps)
			}
			over := steps == n+1
			if (got.State == impl.GsDone) != over || (len(got.Trace) == 1) != over || over && (got.Pc != 3 || got.Trace[0].Kind != impl.ItDone) {
				t.Errorf("a halt behind %d steps, at most %d: %+v", n, most, got)
			}
		}
		if i, ok := impl.NextShared(p, g); ok || i != (impl.Instr{}) {
			t.Errorf("a halt behind %d steps: it comes to %+v, %v", n, i, ok)
		}
	}
}

func TestBurnStopsAtShared(t *testing.T) {
	for _, n := range []int{0, 1, 2, 5, 499, 500, 501, 1999, 2000, 2001} {
		for _, i := range sharedInstrs() {
			p, g := behind(n, i)
			for _, most := range append(burnMosts(), n-1, n, n+1) {
				got, steps := impl.Burn(p, g, most)
				if want := max(0, min(most, n, 2000)); steps != want {
					t.Errorf("%s behind %d steps, at most %d: %d steps", impl.OpWord(i.Op), n, most, steps)
				}
				if (got.Pc == 3) != (steps == n) || got.State != impl.GsReady || len(got.Trace) != 0 {
					t.Errorf("%s behind %d steps, at most %d: %+v", impl.OpWord(i.Op), n, most, got)
				}
			}
		}
	}
}

// A right goroutine that can't step is burnt to itself, whatever most is.
func TestBurnOfNoSteps(t *testing.T) {
	p := waitProg()
	for pc, i := range p.Procs[0].Code {
		for state := 1; state <= 4; state++ {
			if state == impl.GsReady && i.Op <= impl.OpIf {
				continue
			}
			g := inState(atPlace(pc), state)
			for _, most := range burnMosts() {
				if got, steps := impl.Burn(p, g, most); steps != 0 || !sameGor(got, g) {
					t.Errorf("%s in the state %d, at most %d: %+v, %d", impl.OpWord(i.Op), state, most, got, steps)
				}
			}
		}
	}
}

func TestNextSharedBehindSteps(t *testing.T) {
	for _, i := range sharedInstrs() {
		for _, n := range []int{0, 1, 2, 3, 10, 498, 499, 500, 501, 502, 600, 1000, 1999, 2000, 2001} {
			p, g := behind(n, i)
			want := i
			if n > 500 {
				want = impl.Instr{}
			}
			if got, ok := impl.NextShared(p, g); ok != (n <= 500) || got != want {
				t.Errorf("%s behind %d steps: %+v, %v", impl.InstrText(i), n, got, ok)
			}
		}
	}
}

// Who isn't ready comes to no instruction, though it stands at one.
func TestNextSharedInEachState(t *testing.T) {
	for _, i := range sharedInstrs() {
		for _, n := range []int{0, 1, 500} {
			for state := range 6 {
				p, g := behind(n, i)
				got, ok := impl.NextShared(p, inState(g, state))
				if ready := state == impl.GsReady; ok != ready || !ok && got != (impl.Instr{}) || ok && got != i {
					t.Errorf("%s behind %d steps in the state %d: %+v, %v", impl.InstrText(i), n, state, got, ok)
				}
			}
		}
	}
}

// The first shared instruction counts, and not a later one.
func TestNextSharedIsTheFirst(t *testing.T) {
	p := someCode(
		impl.Instr{Op: impl.OpIf, A: 0, B: 3},
		impl.Instr{Op: impl.OpLock},
		impl.Instr{Op: impl.OpPrint, A: 4},
		impl.Instr{Op: impl.OpUnlock},
		impl.Instr{Op: impl.OpClose},
		impl.Instr{Op: impl.OpJump, A: 2},
	)
	for _, x := range []struct {
		pc, arg int
		want    impl.Instr
	}{
		{0, 0, impl.Instr{Op: impl.OpLock}}, {0, 1, impl.Instr{Op: impl.OpUnlock}}, {1, 0, impl.Instr{Op: impl.OpLock}},
		{2, 0, impl.Instr{Op: impl.OpPrint, A: 4}}, {4, 0, impl.Instr{Op: impl.OpClose}}, {5, 0, impl.Instr{Op: impl.OpPrint, A: 4}},
	} {
		g := impl.GorNew(0, x.arg)
		g.Pc = x.pc
		if got, ok := impl.NextShared(p, g); !ok || got != x.want {
			t.Errorf("from the place %d with %d: %+v, %v", x.pc, x.arg, got, ok)
		}
	}
}

// anyLocalProg is a right program of which most instructions are local, so that there is much to burn.
func anyLocalProg(roll func(int) int) impl.Prog {
	p := someCode()
	p.Procs = make([]impl.Proc, roll(3)+1)
	for at := range p.Procs {
		n := roll(12) + 1
		var code []impl.Instr
		for len(code) < n-1 {
			i := anyInstr(roll, p, n)
			if impl.Shared(i.Op) && roll(5) > 0 || i.Op == impl.OpHalt && roll(3) > 0 {
				continue
			}
			if i.Op == impl.OpSet {
				i.B = roll(1000)
			}
			code = append(code, i)
		}
		last := impl.Instr{Op: impl.OpHalt}
		if roll(2) == 0 {
			last = impl.Instr{Op: impl.OpJump, A: roll(n)}
		}
		p.Procs[at].Code = append(code, last)
	}
	return p
}

func TestLocalOfAnyProgs(t *testing.T) {
	roll := dice()
	longest, halts, nexts := 0, 0, 0
	for round := range 3000 {
		p := anyLocalProg(roll)
		if round%5 == 0 {
			p = anyProg(roll)
		}
		if !impl.ProgOk(p) {
			t.Fatalf("%+v isn't right", p)
		}
		g := anyGor(roll, p)
		for k := range g.Regs {
			if roll(3) == 0 {
				g.Regs[k] = roll(1000)
			}
		}
		tryLocal(t, p, true, g, []int{-1, 0, 1, 2, roll(60), 500, 2001})
		wantStepped(t, p, g, roll(60))
		d, steps := impl.Burn(p, g, 1999)
		longest = max(longest, steps)
		if steps > 0 && d.State == impl.GsDone {
			halts++
		}
		if _, ok := impl.NextShared(p, g); ok {
			nexts++
		}
	}
	if longest != 1999 || halts < 100 || nexts < 100 {
		t.Errorf("the longest one had %d steps, %d halted and %d came to a shared instruction", longest, halts, nexts)
	}
}

// Burning in two parts is burning at once, as long as both together are within the bound.
func TestBurnInParts(t *testing.T) {
	roll := dice()
	for range 500 {
		p := anyLocalProg(roll)
		g := anyGor(roll, p)
		first, second := roll(1000), roll(1000)
		half, n := impl.Burn(p, g, first)
		got, m := impl.Burn(p, half, second)
		if want, steps := impl.Burn(p, g, first+second); n+m != steps || !sameGor(got, want) {
			t.Fatalf("Burn of %+v with %d and %d: %+v, %d, %d; at once %+v, %d", g, first, second, got, n, m, want, steps)
		}
	}
}

// A trace of any length is kept whole.
func TestLocalKeepsTraces(t *testing.T) {
	for _, size := range []int{0, 1, 7, 8, 1000, 20000} {
		p, g := behind(101, impl.Instr{Op: impl.OpHalt})
		g.Trace = slices.Repeat([]impl.Item{{Kind: impl.ItSent, Obj: 2, Val: 3}}, size)
		got, steps := impl.Burn(p, g, 200)
		if steps != 102 || len(got.Trace) != size+1 || !slices.Equal(got.Trace[:size], g.Trace) || got.Trace[size] != (impl.Item{Kind: impl.ItDone}) {
			t.Errorf("behind %d items: %d steps and %d items", size, steps, len(got.Trace))
		}
	}
}

// localAnswer is what one call of the layer answers; what isn't answered is left zero.
type localAnswer struct {
	g  impl.Gor
	i  impl.Instr
	n  int
	ok bool
}

func sameLocal(a, b localAnswer) bool {
	return sameGor(a.g, b.g) && a.i == b.i && a.n == b.n && a.ok == b.ok
}

func copyLocal(x localAnswer) localAnswer {
	x.g = copyGor(x.g)
	return x
}

type localCall struct {
	what string
	call func(p impl.Prog, g impl.Gor) localAnswer
}

func localCalls() []localCall {
	l := []localCall{
		{"IsLocal", func(p impl.Prog, g impl.Gor) localAnswer { return localAnswer{ok: impl.IsLocal(p, g)} }},
		{"StepLocal", func(p impl.Prog, g impl.Gor) localAnswer {
			d, ok := impl.StepLocal(p, g)
			return localAnswer{g: d, ok: ok}
		}},
		{"NextShared", func(p impl.Prog, g impl.Gor) localAnswer {
			i, ok := impl.NextShared(p, g)
			return localAnswer{i: i, ok: ok}
		}},
	}
	for _, most := range []int{-1, 0, 1, 2, 5, 300} {
		l = append(l, localCall{"Burn", func(p impl.Prog, g impl.Gor) localAnswer {
			d, n := impl.Burn(p, g, most)
			return localAnswer{g: d, n: n}
		}})
	}
	return l
}

// localGors are right and wrong ones in waitProg, at each of its instructions.
func localGors() []impl.Gor {
	l := []impl.Gor{{}, {Proc: -1, Regs: []int{-1}, State: 9, Trace: []impl.Item{{}}}, {Pc: 99, Regs: make([]int, 6), State: 1}}
	for pc := range 15 {
		for state := range 6 {
			l = append(l, inState(atPlace(pc), state))
		}
		bare := atPlace(pc)
		bare.Trace = nil
		l = append(l, bare, sleeper(pc))
	}
	return l
}

func TestLocalLeavesArguments(t *testing.T) {
	for _, g := range localGors() {
		for _, x := range localCalls() {
			for _, p := range []impl.Prog{waitProg(), fullProg(), {}} {
				kept := copyProg(p)
				d, same := roomyGor(g)
				x.call(p, d)
				if !same() || !sameGor(d, g) || !sameProg(p, kept) {
					t.Fatalf("%s changes %+v or %+v", x.what, g, p)
				}
			}
		}
	}
}

func TestLocalAnswersAreNewMemory(t *testing.T) {
	for _, g := range localGors() {
		for _, x := range localCalls() {
			p := waitProg()
			want := copyLocal(x.call(waitProg(), g))
			d, same := roomyGor(g)
			first, second := x.call(p, d), x.call(p, d)
			spoilGor(first.g)
			if !same() || !sameProg(p, waitProg()) {
				t.Fatalf("%s of %+v: the answer shares memory with an argument", x.what, g)
			}
			if !sameLocal(second, want) {
				t.Fatalf("%s of %+v: two answers share memory", x.what, g)
			}
			spoilGor(d)
			spoilProg(p)
			if !sameLocal(second, want) {
				t.Fatalf("%s of %+v: the answer changes with an argument", x.what, g)
			}
		}
	}
}

// What was answered on the way stays as it was when others go on from there.
func TestLocalAnswersStay(t *testing.T) {
	p, g := behind(60, impl.Instr{Op: impl.OpHalt})
	var all, kept []impl.Gor
	for next, ok := g, true; ok; next, ok = impl.StepLocal(p, next) {
		all, kept = append(all, next), append(kept, copyGor(next))
	}
	if len(all) != 62 {
		t.Fatalf("%d goroutines on a way of 61 steps", len(all))
	}
	for n := range all {
		got, steps := impl.Burn(p, g, n)
		if steps != n || !sameGor(got, kept[n]) {
			t.Errorf("Burn with %d: %+v, %d", n, got, steps)
		}
		spoilGor(got)
	}
	for n := range all {
		if !sameGor(all[n], kept[n]) {
			t.Errorf("behind %d steps: %+v, not %+v", n, all[n], kept[n])
		}
	}
}

func TestLocalOfNilAndEmptyLists(t *testing.T) {
	bare := impl.Prog{Procs: []impl.Proc{{Code: []impl.Instr{{Op: impl.OpSet, A: 1, B: 4}, {Op: impl.OpHalt}}}}}
	gors := append(localGors(), impl.GorNew(0, 1), impl.Gor{State: impl.GsReady})
	for _, p := range []impl.Prog{waitProg(), bare, {Procs: []impl.Proc{{}}}, {}} {
		for _, g := range gors {
			d := g
			d.Regs, d.Trace = turned(g.Regs), turned(g.Trace)
			for _, x := range localCalls() {
				want := x.call(p, g)
				if got := x.call(turnedProg(p), d); !sameLocal(got, want) {
					t.Fatalf("%s of %+v: %+v with nil and empty lists exchanged, not %+v", x.what, g, got, want)
				}
			}
		}
	}
	if got, steps := impl.Burn(turnedProg(bare), impl.GorNew(0, 1), 9); steps != 2 || got.State != impl.GsDone {
		t.Errorf("without channels and selects: %+v, %d", got, steps)
	}
}

// Asking of one goroutine leaves nothing behind for the next call, and the same is answered each time.
func TestLocalKeepsNothing(t *testing.T) {
	all := localGors()
	for at, g := range all {
		for _, x := range localCalls() {
			want := copyLocal(x.call(waitProg(), g))
			for _, y := range localCalls() {
				y.call(fullProg(), all[(at+1)%len(all)])
				y.call(circles()[1], impl.GorNew(0, 1))
			}
			for range 3 {
				if got := x.call(waitProg(), g); !sameLocal(got, want) {
					t.Fatalf("%s of %+v: %+v behind other calls, not %+v", x.what, g, got, want)
				}
			}
		}
	}
}
