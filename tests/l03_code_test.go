package tests

import (
	"math"
	"slices"
	"testing"

	"loop.example/g00679/impl"
)

// opRule is what the document says of one instruction.
type opRule struct {
	op     int
	number int
	word   string
	fields int
	shared bool
}

func opRules() []opRule {
	return []opRule{
		{impl.OpHalt, 1, "halt", 0, false},
		{impl.OpSet, 2, "set", 2, false},
		{impl.OpAdd, 3, "add", 3, false},
		{impl.OpSub, 4, "sub", 3, false},
		{impl.OpLess, 5, "less", 3, false},
		{impl.OpJump, 6, "jump", 1, false},
		{impl.OpIf, 7, "if", 2, false},
		{impl.OpSend, 8, "send", 2, true},
		{impl.OpRecv, 9, "recv", 3, true},
		{impl.OpClose, 10, "close", 1, true},
		{impl.OpSelect, 11, "select", 1, true},
		{impl.OpLock, 12, "lock", 1, true},
		{impl.OpUnlock, 13, "unlock", 1, true},
		{impl.OpSpawn, 14, "spawn", 2, true},
		{impl.OpPrint, 15, "print", 1, true},
	}
}

// noOps are ints that number no instruction: around the fifteen, far from them, and such as wrap round to one of them in fewer bits.
func noOps() []int {
	l := []int{math.MinInt, math.MinInt + 1, math.MinInt + 8, math.MaxInt, math.MaxInt - 1, 1 << 32, 1 << 62, -1 << 62}
	for n := -300; n <= 0; n++ {
		l = append(l, n)
	}
	for n := 16; n <= 300; n++ {
		l = append(l, n)
	}
	for op := 1; op <= 15; op++ {
		for _, bits := range []int{8, 16, 31, 32, 33, 63} {
			l = append(l, op+1<<bits, op-1<<bits)
		}
	}
	return l
}

func noVals() []int {
	return []int{-1, -2, -999, -1000, -1001, math.MinInt, math.MinInt + 1, 1000, 1001, 1998, 1999, 2000, 1 << 10, 1 << 32, 1<<32 + 5, math.MaxInt, math.MaxInt - 1}
}

// wantCalc is the document's rule, told by cases and not by a remainder.
func wantCalc(op, x, y int) int {
	if op == 3 && x+y > 999 {
		return x + y - 1000
	}
	if op == 3 {
		return x + y
	}
	if op == 4 && x < y {
		return x - y + 1000
	}
	if op == 4 {
		return x - y
	}
	if op == 5 && x < y {
		return 1
	}
	return 0
}

func TestCodeConstants(t *testing.T) {
	if impl.NumRegs != 6 || impl.MaxVal != 999 {
		t.Errorf("%d registers, values to %d", impl.NumRegs, impl.MaxVal)
	}
	for _, x := range opRules() {
		if x.op != x.number {
			t.Errorf("%s is numbered %d, not %d", x.word, x.op, x.number)
		}
	}
}

// A conversion is built only where fields, their order and their types are the document's.
func TestCodeTypes(t *testing.T) {
	i := impl.Instr(struct{ Op, A, B, C int }{1, 2, 3, 4})
	if i != (impl.Instr{Op: 1, A: 2, B: 3, C: 4}) {
		t.Errorf("an instruction is %v", i)
	}
	c := impl.Case(struct {
		Send              bool
		Chan, Reg, Ok, To int
	}{true, 1, 2, 3, 4})
	if c != (impl.Case{Send: true, Chan: 1, Reg: 2, Ok: 3, To: 4}) {
		t.Errorf("a case is %v", c)
	}
	s := impl.Select(struct {
		Cases []impl.Case
		Else  int
	}{[]impl.Case{c}, -1})
	if !slices.Equal(s.Cases, []impl.Case{c}) || s.Else != -1 {
		t.Errorf("a select is %v", s)
	}
}

func TestSharedOps(t *testing.T) {
	for _, x := range opRules() {
		if impl.Shared(x.number) != x.shared {
			t.Errorf("Shared of %s is not %v", x.word, x.shared)
		}
	}
	for _, op := range noOps() {
		if impl.Shared(op) {
			t.Errorf("Shared(%d)", op)
		}
	}
}

func TestOpWords(t *testing.T) {
	met := map[string]int{}
	for _, x := range opRules() {
		if got := impl.OpWord(x.number); got != x.word {
			t.Errorf("OpWord(%d) = %q, not %q", x.number, got, x.word)
		}
		met[impl.OpWord(x.number)]++
	}
	if len(met) != 15 {
		t.Errorf("%d different words", len(met))
	}
	for _, op := range noOps() {
		if got := impl.OpWord(op); got != "" {
			t.Errorf("OpWord(%d) = %q", op, got)
		}
	}
}

func TestOpFields(t *testing.T) {
	for _, x := range opRules() {
		if got := impl.Fields(x.number); got != x.fields {
			t.Errorf("Fields of %s = %d, not %d", x.word, got, x.fields)
		}
	}
	for _, op := range noOps() {
		if got := impl.Fields(op); got != -1 {
			t.Errorf("Fields(%d) = %d", op, got)
		}
	}
}

func TestCalcEdges(t *testing.T) {
	known := []struct{ op, x, y, want int }{
		{impl.OpAdd, 0, 0, 0},
		{impl.OpAdd, 0, 999, 999},
		{impl.OpAdd, 999, 0, 999},
		{impl.OpAdd, 1, 998, 999},
		{impl.OpAdd, 1, 999, 0},
		{impl.OpAdd, 500, 500, 0},
		{impl.OpAdd, 998, 5, 3},
		{impl.OpAdd, 999, 999, 998},
		{impl.OpSub, 0, 0, 0},
		{impl.OpSub, 999, 0, 999},
		{impl.OpSub, 999, 999, 0},
		{impl.OpSub, 7, 3, 4},
		{impl.OpSub, 3, 7, 996},
		{impl.OpSub, 0, 1, 999},
		{impl.OpSub, 0, 999, 1},
		{impl.OpSub, 998, 999, 999},
		{impl.OpLess, 0, 0, 0},
		{impl.OpLess, 0, 1, 1},
		{impl.OpLess, 1, 0, 0},
		{impl.OpLess, 999, 999, 0},
		{impl.OpLess, 998, 999, 1},
		{impl.OpLess, 999, 998, 0},
		{impl.OpLess, 0, 999, 1},
		{impl.OpLess, 999, 0, 0},
	}
	for _, x := range known {
		if got := impl.Calc(x.op, x.x, x.y); got != x.want {
			t.Errorf("Calc(%d, %d, %d) = %d, not %d", x.op, x.x, x.y, got, x.want)
		}
	}
}

func TestCalcOfAllValues(t *testing.T) {
	for _, op := range []int{impl.OpAdd, impl.OpSub, impl.OpLess} {
		for x := range impl.MaxVal + 1 {
			for y := range impl.MaxVal + 1 {
				if got := impl.Calc(op, x, y); got != wantCalc(op, x, y) {
					t.Fatalf("Calc(%d, %d, %d) = %d, not %d", op, x, y, got, wantCalc(op, x, y))
				}
			}
		}
	}
}

func TestCalcOfOtherOps(t *testing.T) {
	others := noOps()
	for _, x := range opRules() {
		if x.number != impl.OpAdd && x.number != impl.OpSub && x.number != impl.OpLess {
			others = append(others, x.number)
		}
	}
	vals := []int{0, 1, 2, 7, 500, 998, 999, -1, 1000, math.MinInt, math.MaxInt}
	for _, op := range others {
		for _, x := range vals {
			for _, y := range vals {
				if got := impl.Calc(op, x, y); got != 0 {
					t.Errorf("Calc(%d, %d, %d) = %d", op, x, y, got)
				}
			}
		}
	}
}

func TestCalcOfNoValues(t *testing.T) {
	for _, op := range []int{impl.OpAdd, impl.OpSub, impl.OpLess} {
		for _, far := range noVals() {
			for _, near := range append(noVals(), 0, 1, 2, 500, 998, 999) {
				if got := impl.Calc(op, far, near); got != 0 {
					t.Errorf("Calc(%d, %d, %d) = %d", op, far, near, got)
				}
				if got := impl.Calc(op, near, far); got != 0 {
					t.Errorf("Calc(%d, %d, %d) = %d", op, near, far, got)
				}
			}
		}
	}
}

// Asking for one instruction, or for none, leaves nothing behind for the next call.
func TestCodeKeepsNothing(t *testing.T) {
	for _, first := range opRules() {
		for _, other := range append(noOps(), 1, 8, 15) {
			impl.Fields(other)
			impl.OpWord(other)
			impl.Shared(other)
			impl.Calc(other, 999, 1)
			if impl.Fields(first.number) != first.fields || impl.OpWord(first.number) != first.word || impl.Shared(first.number) != first.shared || impl.Calc(impl.OpAdd, 2, 3) != 5 {
				t.Fatalf("%s is told otherwise behind %d", first.word, other)
			}
		}
	}
}
