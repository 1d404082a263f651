package tests

import (
	"hash/crc32"
	"math"
	"reflect"
	"slices"
	"testing"

	"loop.example/g00679/impl"
)

// span is what a field may be: from the one to the other, both with it.
type span struct {
	from, to int
}

func (s span) has(v int) bool {
	return v >= s.from && v <= s.to
}

// instrRule is what the document says of the fields A, B and C of one instruction.
type instrRule struct {
	op     int
	fields [3]span
}

// instrRules are the rules for a procedure of n instructions, where there are so many channels, mutexes, selects and procedures.
func instrRules(n, chans, mus, sels, procs int) []instrRule {
	none, reg, val, place, channel := span{0, 0}, span{0, 5}, span{0, 999}, span{0, n - 1}, span{-1, chans - 1}
	return []instrRule{
		{impl.OpHalt, [3]span{none, none, none}},
		{impl.OpSet, [3]span{reg, val, none}},
		{impl.OpAdd, [3]span{reg, reg, reg}},
		{impl.OpSub, [3]span{reg, reg, reg}},
		{impl.OpLess, [3]span{reg, reg, reg}},
		{impl.OpJump, [3]span{place, none, none}},
		{impl.OpIf, [3]span{reg, place, none}},
		{impl.OpSend, [3]span{channel, reg, none}},
		{impl.OpRecv, [3]span{channel, reg, reg}},
		{impl.OpClose, [3]span{channel, none, none}},
		{impl.OpSelect, [3]span{{0, sels - 1}, none, none}},
		{impl.OpLock, [3]span{{0, mus - 1}, none, none}},
		{impl.OpUnlock, [3]span{{0, mus - 1}, none, none}},
		{impl.OpSpawn, [3]span{{0, procs - 1}, reg, none}},
		{impl.OpPrint, [3]span{reg, none, none}},
	}
}

// fieldValues are ints at, below and above all edges, and far out.
func fieldValues() []int {
	l := []int{39, 40, 41, 998, 999, 1000, 1001, 1 << 32, 1<<32 + 1, 1 << 62, math.MaxInt - 1, math.MaxInt, -1 << 32, 1 - 1<<32, -1 << 62, math.MinInt + 1, math.MinInt}
	for v := -12; v <= 12; v++ {
		l = append(l, v)
	}
	return l
}

// codeOf is a procedure of n instructions that ends at once.
func codeOf(n int) impl.Proc {
	code := make([]impl.Instr, n)
	for i := range code {
		code[i] = impl.Instr{Op: impl.OpHalt}
	}
	return impl.Proc{Code: code}
}

// sizedProg has so many channels, mutexes, selects and procedures, within the bounds or not.
func sizedProg(chans, mus, sels, procs int) impl.Prog {
	p := impl.Prog{Caps: make([]int, chans), Mus: mus}
	for range sels {
		p.Sels = append(p.Sels, impl.Select{Else: 0})
	}
	for range procs {
		p.Procs = append(p.Procs, codeOf(1))
	}
	return p
}

// fullProg is right and has each kind of thing, and each of the fifteen instructions.
func fullProg() impl.Prog {
	return impl.Prog{
		Caps: []int{0, 2, 4},
		Mus:  2,
		Sels: []impl.Select{
			{Cases: []impl.Case{{Send: true, Chan: 1, Reg: 2, To: 3}, {Chan: 0, Reg: 4, Ok: 5, To: 1}, {Chan: -1, Reg: 1, Ok: 0, To: 0}}, Else: -1},
			{Else: 2},
		},
		Procs: []impl.Proc{
			{Code: []impl.Instr{
				{Op: impl.OpSet, A: 1, B: 999},
				{Op: impl.OpAdd, A: 2, B: 1, C: 3},
				{Op: impl.OpSub, A: 5, B: 4, C: 0},
				{Op: impl.OpLess, A: 3, B: 2, C: 1},
				{Op: impl.OpIf, A: 3, B: 8},
				{Op: impl.OpSpawn, A: 1, B: 2},
				{Op: impl.OpSelect, A: 0},
				{Op: impl.OpSelect, A: 1},
				{Op: impl.OpPrint, A: 5},
				{Op: impl.OpJump, A: 4},
			}},
			{Code: []impl.Instr{
				{Op: impl.OpLock, A: 1},
				{Op: impl.OpSend, A: 2, B: 0},
				{Op: impl.OpRecv, A: -1, B: 1, C: 2},
				{Op: impl.OpClose, A: 0},
				{Op: impl.OpUnlock, A: 0},
				{Op: impl.OpHalt},
			}},
		},
	}
}

// fullNums are the numbers of fullProg, written out by hand.
func fullNums() []int {
	return []int{
		3, 0, 2, 4,
		2,
		2,
		3, 1, 1, 2, 0, 3, 0, 0, 4, 5, 1, 0, -1, 1, 0, 0, -1,
		0, 2,
		2,
		10, 2, 1, 999, 0, 3, 2, 1, 3, 4, 5, 4, 0, 5, 3, 2, 1, 7, 3, 8, 0, 14, 1, 2, 0, 11, 0, 0, 0, 11, 1, 0, 0, 15, 5, 0, 0, 6, 4, 0, 0,
		6, 12, 1, 0, 0, 8, 2, 0, 0, 9, -1, 1, 2, 10, 0, 0, 0, 13, 0, 0, 0, 1, 0, 0, 0,
	}
}

// widestProg meets every bound exactly.
func widestProg() impl.Prog {
	p := impl.Prog{Caps: []int{4, 4, 4, 4, 4, 4}, Mus: 4}
	for range 6 {
		p.Sels = append(p.Sels, impl.Select{Cases: []impl.Case{{Send: true, Chan: 5, Reg: 5, To: 39}, {Chan: 4, Reg: 5, Ok: 5, To: 39}, {Chan: -1, To: 39}, {Send: true, Chan: -1, To: 39}}, Else: 39})
	}
	code := []impl.Instr{
		{Op: impl.OpSet, A: 5, B: 999},
		{Op: impl.OpIf, A: 5, B: 39},
		{Op: impl.OpRecv, A: 5, B: 5, C: 5},
		{Op: impl.OpLock, A: 3},
		{Op: impl.OpSpawn, A: 5, B: 5},
		{Op: impl.OpSelect, A: 5},
	}
	for len(code) < 40 {
		code = append(code, impl.Instr{Op: impl.OpJump, A: 39})
	}
	for range 6 {
		p.Procs = append(p.Procs, impl.Proc{Code: slices.Clone(code)})
	}
	return p
}

// copyProg is p in memory of its own; lists that are nil stay nil.
func copyProg(p impl.Prog) impl.Prog {
	q := impl.Prog{Caps: slices.Clone(p.Caps), Mus: p.Mus, Sels: slices.Clone(p.Sels), Procs: slices.Clone(p.Procs)}
	for i := range q.Sels {
		q.Sels[i].Cases = slices.Clone(q.Sels[i].Cases)
	}
	for i := range q.Procs {
		q.Procs[i].Code = slices.Clone(q.Procs[i].Code)
	}
	return q
}

// change is one thing that is done to a right program.
type change struct {
	what string
	do   func(p *impl.Prog)
}

// wrongChanges break one condition of ProgOk each, of fullProg.
func wrongChanges() []change {
	return []change{
		{"seven channels", func(p *impl.Prog) { p.Caps = []int{0, 1, 2, 3, 4, 0, 0} }},
		{"a capacity of -1", func(p *impl.Prog) { p.Caps[2] = -1 }},
		{"a capacity of 5", func(p *impl.Prog) { p.Caps[0] = 5 }},
		{"a capacity far out", func(p *impl.Prog) { p.Caps[1] = math.MaxInt }},
		{"a capacity far below", func(p *impl.Prog) { p.Caps[1] = math.MinInt }},
		{"five mutexes", func(p *impl.Prog) { p.Mus = 5 }},
		{"mutexes far out", func(p *impl.Prog) { p.Mus = math.MaxInt }},
		{"seven selects", func(p *impl.Prog) {
			for len(p.Sels) < 7 {
				p.Sels = append(p.Sels, impl.Select{Else: 0})
			}
		}},
		{"five cases", func(p *impl.Prog) { p.Sels[1].Cases = make([]impl.Case, 5); nilCases(p.Sels[1].Cases) }},
		{"neither a case nor an Else", func(p *impl.Prog) { p.Sels[1].Else = -1 }},
		{"a select of no channel", func(p *impl.Prog) { p.Sels[0].Cases[1].Chan = 3 }},
		{"a select with a channel twice", func(p *impl.Prog) { p.Sels[0].Cases[1].Chan = 1 }},
		{"a select with an Else of -2", func(p *impl.Prog) { p.Sels[1].Else = -2 }},
		{"a select that no procedure names, with a To of 40", func(p *impl.Prog) {
			p.Sels = append(p.Sels, impl.Select{Cases: []impl.Case{{Chan: -1, To: 40}}, Else: -1})
		}},
		{"a select that no procedure names, with an Else of 40", func(p *impl.Prog) { p.Sels = append(p.Sels, impl.Select{Else: 40}) }},
		{"no procedure", func(p *impl.Prog) { p.Procs = nil }},
		{"an empty list of procedures", func(p *impl.Prog) { p.Procs = []impl.Proc{} }},
		{"seven procedures", func(p *impl.Prog) {
			for len(p.Procs) < 7 {
				p.Procs = append(p.Procs, codeOf(1))
			}
		}},
		{"a first procedure of no instructions", func(p *impl.Prog) { p.Procs[0].Code = nil }},
		{"a last procedure of no instructions", func(p *impl.Prog) { p.Procs[1].Code = []impl.Instr{} }},
		{"a procedure of 41", func(p *impl.Prog) { p.Procs = append(p.Procs, codeOf(41)) }},
		{"an instruction of no Op", func(p *impl.Prog) { p.Procs[0].Code[0] = impl.Instr{} }},
		{"an Op behind the last", func(p *impl.Prog) { p.Procs[1].Code[0].Op = 16 }},
		{"a register of 6", func(p *impl.Prog) { p.Procs[1].Code[1].B = 6 }},
		{"a value of 1000", func(p *impl.Prog) { p.Procs[0].Code[0].B = 1000 }},
		{"a jump behind the end", func(p *impl.Prog) { p.Procs[0].Code[9].A = 10 }},
		{"a field that isn't named", func(p *impl.Prog) { p.Procs[1].Code[5].C = 1 }},
		{"a procedure that isn't there", func(p *impl.Prog) { p.Procs[0].Code[5].A = 2 }},
		{"a mutex that isn't there", func(p *impl.Prog) { p.Procs[1].Code[4].A = 2 }},
		{"a select that isn't there", func(p *impl.Prog) { p.Procs[0].Code[6].A = 2 }},
		{"an end by print", func(p *impl.Prog) { p.Procs[1].Code[5] = impl.Instr{Op: impl.OpPrint} }},
		{"an end by if", func(p *impl.Prog) { p.Procs[0].Code[9] = impl.Instr{Op: impl.OpIf} }},
		{"a To that is too far for one who names it", func(p *impl.Prog) { p.Sels[0].Cases[0].To = 10 }},
		{"an Else that is too far for one who names it", func(p *impl.Prog) { p.Sels[1].Else = 10 }},
		{"an Else too far for the shorter of two that name it", func(p *impl.Prog) {
			p.Sels[1].Else = 6
			p.Procs[1].Code[0] = impl.Instr{Op: impl.OpSelect, A: 1}
		}},
	}
}

// rightChanges leave fullProg right.
func rightChanges() []change {
	return []change{
		{"nothing", func(p *impl.Prog) {}},
		{"six channels", func(p *impl.Prog) { p.Caps = []int{0, 1, 2, 3, 4, 0} }},
		{"four mutexes", func(p *impl.Prog) { p.Mus = 4 }},
		{"six selects", func(p *impl.Prog) {
			for len(p.Sels) < 6 {
				p.Sels = append(p.Sels, impl.Select{Else: 39})
			}
		}},
		{"four cases", func(p *impl.Prog) { p.Sels[1].Cases = make([]impl.Case, 4); nilCases(p.Sels[1].Cases) }},
		{"cases without an Else", func(p *impl.Prog) { p.Sels[1] = impl.Select{Cases: []impl.Case{{}}, Else: -1} }},
		{"an empty list of cases beside an Else", func(p *impl.Prog) { p.Sels[1].Cases = []impl.Case{} }},
		{"six procedures", func(p *impl.Prog) {
			for len(p.Procs) < 6 {
				p.Procs = append(p.Procs, codeOf(1))
			}
		}},
		{"a procedure of 40", func(p *impl.Prog) { p.Procs = append(p.Procs, codeOf(40)) }},
		{"a procedure of one jump to itself", func(p *impl.Prog) {
			p.Procs = append(p.Procs, impl.Proc{Code: []impl.Instr{{Op: impl.OpJump}}})
		}},
		{"an end ahead of the end", func(p *impl.Prog) { p.Procs[0].Code[0] = impl.Instr{Op: impl.OpHalt} }},
		{"a select too far for the one that doesn't name it", func(p *impl.Prog) { p.Sels[1].Else = 9 }},
		{"a select that none names, far", func(p *impl.Prog) {
			p.Sels = append(p.Sels, impl.Select{Cases: []impl.Case{{Chan: -1, To: 39}}, Else: 39})
		}},
		{"a select named twice", func(p *impl.Prog) { p.Procs[0].Code[6].A = 1 }},
		{"selects as far as both that name them", func(p *impl.Prog) {
			p.Sels[1].Else = 5
			p.Procs[1].Code[0] = impl.Instr{Op: impl.OpSelect, A: 1}
		}},
	}
}

func nilCases(l []impl.Case) {
	for i := range l {
		l[i].Chan = -1
	}
}

func TestProgConstants(t *testing.T) {
	got := []int{impl.MaxChans, impl.MaxCap, impl.MaxMus, impl.MaxSels, impl.MaxCases, impl.MaxProcs, impl.MaxCode}
	if !slices.Equal(got, []int{6, 4, 4, 6, 4, 6, 40}) {
		t.Errorf("the bounds are %v", got)
	}
}

// A conversion is built only where fields, their order and their types are the document's.
func TestProgTypes(t *testing.T) {
	x := impl.Proc(struct{ Code []impl.Instr }{[]impl.Instr{{Op: 1}}})
	p := impl.Prog(struct {
		Caps  []int
		Mus   int
		Sels  []impl.Select
		Procs []impl.Proc
	}{[]int{1}, 2, []impl.Select{{Else: 3}}, []impl.Proc{x}})
	if p.Caps[0] != 1 || p.Mus != 2 || p.Sels[0].Else != 3 || p.Procs[0].Code[0].Op != 1 {
		t.Errorf("a program is %v", p)
	}
}

// tryInstrs asks for each instruction with each value in each field, the two others at each of their edges.
func tryInstrs(t *testing.T, p impl.Prog, n int) {
	t.Helper()
	for _, rule := range instrRules(n, len(p.Caps), p.Mus, len(p.Sels), len(p.Procs)) {
		for field := range 3 {
			for _, v := range fieldValues() {
				for _, upper := range []bool{false, true} {
					tryField(t, p, n, rule, field, v, upper)
				}
			}
		}
	}
}

func tryField(t *testing.T, p impl.Prog, n int, rule instrRule, field, v int, upper bool) {
	t.Helper()
	var f [3]int
	for k := range f {
		f[k] = rule.fields[k].from
		if upper {
			f[k] = rule.fields[k].to
		}
	}
	f[field] = v
	want := true
	for k := range f {
		want = want && rule.fields[k].has(f[k])
	}
	i := impl.Instr{Op: rule.op, A: f[0], B: f[1], C: f[2]}
	if got := impl.InstrOk(p, n, i); got != want {
		t.Errorf("InstrOk of %v of %d, with %d channels, %d mutexes, %d selects, %d procedures: %v", i, n, len(p.Caps), p.Mus, len(p.Sels), len(p.Procs), got)
	}
}

func TestInstrOkAtTheEdges(t *testing.T) {
	for _, n := range []int{1, 2, 10, 40} {
		tryInstrs(t, fullProg(), n)
		tryInstrs(t, widestProg(), n)
	}
}

// Where there are no places no jump may stand, and what names no place may stand all the same.
func TestInstrOkOfStrangeSizes(t *testing.T) {
	for _, n := range []int{0, -1, -2, 41, 1000, math.MaxInt, math.MinInt + 1} {
		tryInstrs(t, fullProg(), n)
	}
	for _, v := range []int{0, 1, -1, math.MaxInt, math.MinInt} {
		if impl.InstrOk(fullProg(), math.MinInt, impl.Instr{Op: impl.OpJump, A: v}) || impl.InstrOk(fullProg(), math.MinInt, impl.Instr{Op: impl.OpIf, B: v}) {
			t.Errorf("a place %d of the fewest instructions", v)
		}
	}
	if !impl.InstrOk(fullProg(), math.MinInt, impl.Instr{Op: impl.OpSet, A: 5, B: 999}) {
		t.Error("set names no place")
	}
}

// What there is hangs on the lists as they are, also in a program that is not right.
func TestInstrOkOfWrongProgs(t *testing.T) {
	for _, p := range []impl.Prog{{}, sizedProg(0, 0, 0, 1), sizedProg(7, 5, 7, 7), sizedProg(11, 9, 10, 8), sizedProg(1, -1, 1, 0), sizedProg(1, -7, 0, 1), sizedProg(0, math.MaxInt, 0, 0), sizedProg(0, math.MinInt+1, 0, 0)} {
		for _, n := range []int{1, 5, 0} {
			tryInstrs(t, p, n)
		}
	}
	if impl.InstrOk(impl.Prog{Mus: math.MinInt}, 1, impl.Instr{Op: impl.OpLock}) || impl.InstrOk(impl.Prog{Mus: math.MinInt}, 1, impl.Instr{Op: impl.OpUnlock, A: math.MaxInt}) {
		t.Error("a mutex of the fewest")
	}
	for _, x := range wrongChanges() {
		p := fullProg()
		x.do(&p)
		tryInstrs(t, p, 10)
	}
}

func TestInstrOkOfUnnamedFields(t *testing.T) {
	for _, rule := range instrRules(10, 3, 2, 2, 2) {
		for field := impl.Fields(rule.op); field < 3; field++ {
			for _, v := range []int{1, -1} {
				f := [3]int{}
				f[field] = v
				if i := (impl.Instr{Op: rule.op, A: f[0], B: f[1], C: f[2]}); impl.InstrOk(fullProg(), 10, i) {
					t.Errorf("InstrOk of %v", i)
				}
			}
		}
	}
}

func TestInstrOkOfOtherOps(t *testing.T) {
	for _, op := range append(noOps(), 0, impl.OpPrint+1) {
		for _, v := range []int{0, 1, -1} {
			if impl.InstrOk(fullProg(), 10, impl.Instr{Op: op, A: v}) {
				t.Errorf("InstrOk with the Op %d", op)
			}
		}
	}
}

// caseSpans are what a case may have in fullProg, for a procedure of n instructions.
func caseSpans(n int, send bool) [4]span {
	ok := span{0, 5}
	if send {
		ok = span{0, 0}
	}
	return [4]span{{-1, 2}, {0, 5}, ok, {0, n - 1}}
}

func caseWith(send bool, f [4]int) impl.Case {
	return impl.Case{Send: send, Chan: f[0], Reg: f[1], Ok: f[2], To: f[3]}
}

func TestSelectOkOfOneCase(t *testing.T) {
	for _, n := range []int{1, 2, 10, 40, 41, 0, -1, math.MaxInt} {
		for _, send := range []bool{true, false} {
			spans := caseSpans(n, send)
			for field := range 4 {
				for _, v := range fieldValues() {
					f := [4]int{spans[0].to, spans[1].to, spans[2].to, 0}
					f[field] = v
					want := n >= 1 && spans[field].has(v)
					s := impl.Select{Cases: []impl.Case{caseWith(send, f)}, Else: -1}
					if got := impl.SelectOk(fullProg(), n, s); got != want {
						t.Errorf("SelectOk of %v for %d: %v", s, n, got)
					}
				}
			}
		}
	}
}

// The wrong case is told wherever it stands, and whatever stands beside it.
func TestSelectOkOfTheWrongOneOfMany(t *testing.T) {
	right := []impl.Case{{Send: true, Chan: 0, Reg: 5, To: 9}, {Chan: 1, Reg: 0, Ok: 5, To: 0}, {Chan: -1}, {Send: true, Chan: 2}}
	if !impl.SelectOk(fullProg(), 10, impl.Select{Cases: right, Else: 9}) {
		t.Fatal("a select that is right")
	}
	wrong := []func(c *impl.Case){
		func(c *impl.Case) { c.Chan = 3 },
		func(c *impl.Case) { c.Chan = -2 },
		func(c *impl.Case) { c.Reg = 6 },
		func(c *impl.Case) { c.Reg = -1 },
		func(c *impl.Case) { c.Send, c.Ok = false, 6 },
		func(c *impl.Case) { c.Ok = -1 },
		func(c *impl.Case) { c.Send, c.Ok = true, 1 },
		func(c *impl.Case) { c.To = 10 },
		func(c *impl.Case) { c.To = -1 },
	}
	for at := range right {
		for k, spoilIt := range wrong {
			l := slices.Clone(right)
			spoilIt(&l[at])
			if impl.SelectOk(fullProg(), 10, impl.Select{Cases: l, Else: 9}) {
				t.Errorf("SelectOk of %v, spoilt by %d at %d", l, k, at)
			}
		}
	}
}

func TestSelectOkOfElse(t *testing.T) {
	for _, n := range []int{0, 1, 2, 10, 40, 41, 1001, -1, -2, -1000, math.MaxInt, math.MinInt + 1} {
		for _, v := range fieldValues() {
			s := impl.Select{Else: v}
			if got := impl.SelectOk(fullProg(), n, s); got != (span{-1, n - 1}).has(v) {
				t.Errorf("SelectOk with the Else %d for %d: %v", v, n, got)
			}
		}
	}
	for _, v := range fieldValues() {
		if impl.SelectOk(fullProg(), math.MinInt, impl.Select{Else: v}) {
			t.Errorf("SelectOk with the Else %d for the fewest instructions", v)
		}
	}
}

// Every two channels, sent to or received from, with a case between them and without one.
func TestSelectOkOfTwoCases(t *testing.T) {
	for _, between := range []bool{false, true} {
		for a := -1; a <= 2; a++ {
			for b := -1; b <= 2; b++ {
				for k := range 4 {
					l := []impl.Case{{Send: k&1 == 1, Chan: a, Reg: 1}}
					if between {
						l = append(l, impl.Case{Chan: -1})
					}
					l = append(l, impl.Case{Send: k&2 == 2, Chan: b, Reg: 2, To: 1})
					want := a != b || a == -1
					if got := impl.SelectOk(fullProg(), 2, impl.Select{Cases: l, Else: -1}); got != want {
						t.Errorf("SelectOk of %v: %v", l, got)
					}
				}
			}
		}
	}
}

// SelectOk bounds neither the cases nor the channels: ProgOk does.
func TestSelectOkOfWrongProgs(t *testing.T) {
	nils := make([]impl.Case, 1000)
	nilCases(nils)
	if !impl.SelectOk(impl.Prog{}, 1, impl.Select{Cases: nils, Else: -1}) {
		t.Error("a thousand nil channels")
	}
	var l []impl.Case
	for ch := range 9 {
		l = append(l, impl.Case{Chan: ch, Send: ch%2 == 0})
	}
	wide := impl.Prog{Caps: []int{9, -9, 9, 9, 9, 9, 9, 9, 9}, Mus: -1}
	if !impl.SelectOk(wide, 1, impl.Select{Cases: l, Else: 0}) {
		t.Error("nine channels, each once")
	}
	if impl.SelectOk(wide, 1, impl.Select{Cases: append(l, impl.Case{Chan: 9}), Else: 0}) {
		t.Error("a tenth channel of nine")
	}
	if impl.SelectOk(wide, 1, impl.Select{Cases: append(l, impl.Case{Chan: 0}), Else: 0}) {
		t.Error("the first channel as the tenth case")
	}
	if !impl.SelectOk(impl.Prog{}, 1, impl.Select{Cases: []impl.Case{{Chan: -1}}}) || impl.SelectOk(impl.Prog{}, 1, impl.Select{Cases: []impl.Case{{}}}) {
		t.Error("a program without channels")
	}
}

func TestSelectOkOfNoCases(t *testing.T) {
	for _, s := range []impl.Select{{Else: -1}, {Cases: []impl.Case{}, Else: -1}} {
		if !impl.SelectOk(fullProg(), 0, s) || !impl.SelectOk(impl.Prog{}, 40, s) || impl.SelectOk(fullProg(), -1, s) {
			t.Errorf("SelectOk of %v", s)
		}
	}
}

func TestProgOkOfRightOnes(t *testing.T) {
	for _, x := range rightChanges() {
		p := fullProg()
		x.do(&p)
		if !impl.ProgOk(p) {
			t.Errorf("not right: %s", x.what)
		}
	}
	least := impl.Prog{Procs: []impl.Proc{codeOf(1)}}
	empty := impl.Prog{Caps: []int{}, Sels: []impl.Select{}, Procs: []impl.Proc{codeOf(1)}}
	if !impl.ProgOk(least) || !impl.ProgOk(empty) || !impl.ProgOk(widestProg()) {
		t.Error("the least ones or the widest one")
	}
}

func TestProgOkOfWrongOnes(t *testing.T) {
	if impl.ProgOk(impl.Prog{}) {
		t.Error("the empty program is right")
	}
	for _, x := range wrongChanges() {
		p := fullProg()
		x.do(&p)
		if impl.ProgOk(p) {
			t.Errorf("right: %s", x.what)
		}
	}
	for _, mus := range []int{-1, -4, math.MinInt, 5, math.MaxInt} {
		if impl.ProgOk(impl.Prog{Mus: mus, Procs: []impl.Proc{codeOf(1)}}) {
			t.Errorf("%d mutexes are right", mus)
		}
	}
}

// Each bound is met exactly by widestProg; one more of any of it is too much.
func TestProgOkBehindTheBounds(t *testing.T) {
	for _, x := range []change{
		{"channels", func(p *impl.Prog) { p.Caps = append(p.Caps, 0) }},
		{"capacity of the first", func(p *impl.Prog) { p.Caps[0]++ }},
		{"capacity of the last", func(p *impl.Prog) { p.Caps[5]++ }},
		{"mutexes", func(p *impl.Prog) { p.Mus++ }},
		{"selects", func(p *impl.Prog) { p.Sels = append(p.Sels, impl.Select{Else: 0}) }},
		{"cases of the first", func(p *impl.Prog) { p.Sels[0].Cases = append(p.Sels[0].Cases, impl.Case{Chan: -1}) }},
		{"cases of the last", func(p *impl.Prog) { p.Sels[5].Cases = append(p.Sels[5].Cases, impl.Case{Chan: 0}) }},
		{"To", func(p *impl.Prog) { p.Sels[4].Cases[0].To++ }},
		{"Else", func(p *impl.Prog) { p.Sels[4].Else++ }},
		{"procedures", func(p *impl.Prog) { p.Procs = append(p.Procs, codeOf(1)) }},
		{"code of the first", func(p *impl.Prog) { p.Procs[0].Code = append(p.Procs[0].Code, impl.Instr{Op: impl.OpHalt}) }},
		{"code of the last", func(p *impl.Prog) { p.Procs[5].Code = append(p.Procs[5].Code, impl.Instr{Op: impl.OpHalt}) }},
	} {
		p := widestProg()
		x.do(&p)
		if impl.ProgOk(p) {
			t.Errorf("one more: %s", x.what)
		}
	}
}

// Only halt and jump end a procedure; each of the others is right one place ahead of the end.
func TestProgOkOfEnds(t *testing.T) {
	for _, x := range opRules() {
		i := impl.Instr{Op: x.number}
		end := impl.Prog{Caps: []int{0}, Mus: 1, Sels: []impl.Select{{Else: 0}}, Procs: []impl.Proc{codeOf(2)}}
		end.Procs[0].Code[0] = i
		if !impl.ProgOk(end) {
			t.Errorf("%s isn't right ahead of the end", x.word)
		}
		end.Procs[0].Code[1] = i
		if got := impl.ProgOk(end); got != (x.word == "halt" || x.word == "jump") {
			t.Errorf("%s at the end: %v", x.word, got)
		}
	}
}

// A select is held against each procedure that names it, in whichever order they come, and by its own length.
func TestProgOkOfSelectsInProcs(t *testing.T) {
	naming := func(n int, sel int) impl.Proc {
		x := codeOf(n)
		x.Code[0] = impl.Instr{Op: impl.OpSelect, A: sel}
		return x
	}
	for far := range 40 {
		for n := 2; n <= 40; n++ {
			byElse := impl.Prog{Sels: []impl.Select{{Else: 0}, {Else: far}}, Procs: []impl.Proc{naming(40, 1), naming(n, 1), naming(2, 0)}}
			byCase := impl.Prog{Sels: []impl.Select{{Cases: []impl.Case{{Chan: -1, To: far}}, Else: -1}}, Procs: []impl.Proc{naming(n, 0), naming(40, 0)}}
			if impl.ProgOk(byElse) != (far < n) || impl.ProgOk(byCase) != (far < n) {
				t.Fatalf("a select to the place %d in a procedure of %d", far, n)
			}
		}
	}
	p := impl.Prog{Sels: []impl.Select{{Else: 1}, {Else: 2}}, Procs: []impl.Proc{naming(2, 0)}}
	if !impl.ProgOk(p) {
		t.Error("a select that isn't named is held against the procedure")
	}
	p.Procs[0].Code = []impl.Instr{{Op: impl.OpSelect, A: 0}, {Op: impl.OpSelect, A: 0}, {Op: impl.OpHalt}}
	if !impl.ProgOk(p) {
		t.Error("a select named twice")
	}
	p.Sels[1].Else = 3
	p.Procs[0].Code[1].A = 1
	if impl.ProgOk(p) {
		t.Error("the second select of a procedure is too far")
	}
}

func TestProgNumsOneByOne(t *testing.T) {
	if got := impl.ProgNums(fullProg()); !slices.Equal(got, fullNums()) {
		t.Errorf("the numbers are %v, not %v", got, fullNums())
	}
	least := impl.Prog{Procs: []impl.Proc{codeOf(1)}}
	if got := impl.ProgNums(least); !slices.Equal(got, []int{0, 0, 0, 1, 1, 1, 0, 0, 0}) {
		t.Errorf("the numbers of the least program are %v", got)
	}
	small := impl.Prog{Caps: []int{4}, Mus: 3, Sels: []impl.Select{{Cases: []impl.Case{{Send: true, Chan: 0, Reg: 5, To: 39}}, Else: 7}}, Procs: []impl.Proc{{Code: []impl.Instr{{Op: impl.OpJump}}}, codeOf(2)}}
	want := []int{1, 4, 3, 1, 1, 1, 0, 5, 0, 39, 7, 2, 1, 6, 0, 0, 0, 2, 1, 0, 0, 0, 1, 0, 0, 0}
	if got := impl.ProgNums(small); !slices.Equal(got, want) {
		t.Errorf("the numbers of the small program are %v, not %v", got, want)
	}
}

// The numbers of any two right programs of these differ: a program is told by them.
func TestProgNumsTellProgs(t *testing.T) {
	var all [][]int
	for _, x := range rightChanges() {
		p := fullProg()
		x.do(&p)
		if reflect.DeepEqual(p, fullProg()) || x.what == "an empty list of cases beside an Else" {
			continue
		}
		all = append(all, impl.ProgNums(p))
	}
	all = append(all, impl.ProgNums(fullProg()), impl.ProgNums(widestProg()))
	for i, a := range all {
		if len(a) == 0 {
			t.Errorf("right program %d has no numbers", i)
		}
		for j, b := range all {
			if i != j && slices.Equal(a, b) {
				t.Errorf("programs %d and %d have the same numbers", i, j)
			}
		}
	}
}

func TestProgNumsOfWrongOnes(t *testing.T) {
	if len(impl.ProgNums(impl.Prog{})) != 0 {
		t.Error("numbers of the empty program")
	}
	for _, x := range wrongChanges() {
		p := fullProg()
		x.do(&p)
		if got := impl.ProgNums(p); len(got) != 0 {
			t.Errorf("numbers of %s: %v", x.what, got)
		}
	}
}

// wantPrint is the document's rule by the library's sum and with digits cut by a division.
func wantPrint(nums []int) int {
	var b []byte
	for _, n := range nums {
		rest := 2 * n
		if n < 0 {
			rest = -2*n - 1
		}
		for rest >= 128 {
			b = append(b, byte(rest%128+128))
			rest /= 128
		}
		b = append(b, byte(rest))
	}
	return int(crc32.ChecksumIEEE(b))
}

func TestPrint(t *testing.T) {
	if got := impl.Print(fullProg()); got != wantPrint(fullNums()) {
		t.Errorf("Print = %d, not %d", got, wantPrint(fullNums()))
	}
	for _, x := range rightChanges() {
		p := fullProg()
		x.do(&p)
		if got := impl.Print(p); got != wantPrint(impl.ProgNums(p)) {
			t.Errorf("Print = %d, not %d: %s", got, wantPrint(impl.ProgNums(p)), x.what)
		}
	}
	if got := impl.Print(widestProg()); got != wantPrint(impl.ProgNums(widestProg())) {
		t.Errorf("Print of the widest program = %d", got)
	}
}

// Each of these differs from fullProg, and from each other one, in one number.
func TestPrintTellsOneNumber(t *testing.T) {
	met := map[int]string{impl.Print(fullProg()): "nothing"}
	for _, x := range []change{
		{"a capacity", func(p *impl.Prog) { p.Caps[0] = 1 }},
		{"another capacity", func(p *impl.Prog) { p.Caps[1] = 1 }},
		{"mutexes", func(p *impl.Prog) { p.Mus = 3 }},
		{"Send", func(p *impl.Prog) { p.Sels[0].Cases[2].Send = true }},
		{"Chan", func(p *impl.Prog) { p.Sels[0].Cases[2].Chan = 2 }},
		{"Reg", func(p *impl.Prog) { p.Sels[0].Cases[0].Reg = 3 }},
		{"Ok", func(p *impl.Prog) { p.Sels[0].Cases[1].Ok = 4 }},
		{"To", func(p *impl.Prog) { p.Sels[0].Cases[0].To = 4 }},
		{"Else from none", func(p *impl.Prog) { p.Sels[0].Else = 0 }},
		{"Else", func(p *impl.Prog) { p.Sels[1].Else = 3 }},
		{"Op", func(p *impl.Prog) { p.Procs[0].Code[1].Op = impl.OpSub }},
		{"A", func(p *impl.Prog) { p.Procs[0].Code[8].A = 4 }},
		{"B", func(p *impl.Prog) { p.Procs[0].Code[0].B = 998 }},
		{"C", func(p *impl.Prog) { p.Procs[1].Code[2].C = 3 }},
		{"a nil channel", func(p *impl.Prog) { p.Procs[1].Code[2].A = 0 }},
	} {
		p := fullProg()
		x.do(&p)
		sum := impl.Print(p)
		if sum < 0 || met[sum] != "" {
			t.Errorf("Print = %d of %s, as of %q", sum, x.what, met[sum])
		}
		met[sum] = x.what
	}
}

func TestPrintOfWrongOnes(t *testing.T) {
	if got := impl.Print(impl.Prog{}); got != -1 {
		t.Errorf("Print of the empty program = %d", got)
	}
	for _, x := range wrongChanges() {
		p := fullProg()
		x.do(&p)
		if got := impl.Print(p); got != -1 {
			t.Errorf("Print = %d: %s", got, x.what)
		}
	}
}

func TestInstrs(t *testing.T) {
	p := fullProg()
	if impl.Instrs(p, 0) != 10 || impl.Instrs(p, 1) != 6 {
		t.Errorf("%d and %d instructions", impl.Instrs(p, 0), impl.Instrs(p, 1))
	}
	for _, at := range []int{-1, -2, 2, 3, 1 << 32, 1<<32 + 1, -1 << 32, 1 - 1<<32, math.MaxInt, math.MinInt, math.MinInt + 1} {
		if got := impl.Instrs(p, at); got != 0 {
			t.Errorf("%d instructions of the procedure %d", got, at)
		}
	}
	for at := range 6 {
		if impl.Instrs(widestProg(), at) != 40 || impl.Instrs(impl.Prog{}, at) != 0 {
			t.Errorf("the instructions of the procedure %d of the widest or of none", at)
		}
	}
}

// Instrs counts what stands there, also in a program that is not right.
func TestInstrsOfWrongProgs(t *testing.T) {
	p := impl.Prog{Mus: -1, Procs: []impl.Proc{{}, {Code: []impl.Instr{}}, codeOf(41), {Code: make([]impl.Instr, 3)}, codeOf(1), codeOf(1), codeOf(1), codeOf(2)}}
	for at, want := range []int{0, 0, 41, 3, 1, 1, 1, 2, 0} {
		if got := impl.Instrs(p, at); got != want {
			t.Errorf("%d instructions of the procedure %d, not %d", got, at, want)
		}
	}
}

// askAll asks all that the layer answers of a program.
func askAll(p impl.Prog) {
	impl.ProgOk(p)
	impl.ProgNums(p)
	impl.Print(p)
	for at := -1; at <= len(p.Procs); at++ {
		impl.Instrs(p, at)
	}
	for _, x := range p.Procs {
		for _, i := range x.Code {
			impl.InstrOk(p, len(x.Code), i)
		}
	}
	for _, s := range p.Sels {
		impl.SelectOk(p, impl.MaxCode, s)
	}
}

func TestProgIsLeftAsItWas(t *testing.T) {
	all := append(rightChanges(), wrongChanges()...)
	for _, x := range all {
		p := fullProg()
		x.do(&p)
		p.Caps = append(make([]int, 0, 20), p.Caps...)
		before := copyProg(p)
		askAll(p)
		if !reflect.DeepEqual(p, before) {
			t.Errorf("changed: %s", x.what)
		}
		for _, v := range p.Caps[len(p.Caps):cap(p.Caps)] {
			if v != 0 {
				t.Errorf("written behind the capacities: %s", x.what)
			}
		}
	}
}

func TestProgNumsAreNewMemory(t *testing.T) {
	p := fullProg()
	first := impl.ProgNums(p)
	for i := range first {
		first[i] = 77
	}
	if !reflect.DeepEqual(p, fullProg()) {
		t.Error("the numbers share memory with the program")
	}
	second := impl.ProgNums(p)
	if !slices.Equal(second, fullNums()) {
		t.Error("the numbers of one call share memory with those of another")
	}
	p.Caps[0], p.Sels[0].Cases[0].Reg, p.Procs[0].Code[0].B = 1, 1, 1
	if !slices.Equal(second, fullNums()) {
		t.Error("the numbers follow the program")
	}
}

// What was met in one call is not met in the next one.
func TestProgKeepsNothing(t *testing.T) {
	for _, x := range append(wrongChanges(), rightChanges()...) {
		p := fullProg()
		x.do(&p)
		askAll(p)
		askAll(p)
		if !impl.ProgOk(fullProg()) || !impl.SelectOk(fullProg(), 10, fullProg().Sels[0]) || impl.Print(fullProg()) != wantPrint(fullNums()) {
			t.Fatalf("told otherwise behind %s", x.what)
		}
	}
}
