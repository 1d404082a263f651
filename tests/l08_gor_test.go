package tests

import (
	"math"
	"slices"
	"strconv"
	"testing"

	"loop.example/g00679/impl"
)

// itemRule is what the document says of one kind of item.
type itemRule struct {
	kind  int
	word  string
	obj   bool
	vals  span
	tells bool
}

// itemRules are the ten kinds; an Obj that isn't told is 0, and a Val that isn't told is 0.
func itemRules() []itemRule {
	return []itemRule{
		{1, "sent", true, span{0, 999}, true},
		{2, "got", true, span{0, 999}, true},
		{3, "closed", true, span{0, 0}, false},
		{4, "picked", true, span{-1, math.MaxInt}, true},
		{5, "locked", true, span{0, 0}, false},
		{6, "unlocked", true, span{0, 0}, false},
		{7, "spawned", true, span{0, math.MaxInt}, true},
		{8, "printed", false, span{0, 999}, true},
		{9, "done", false, span{0, 0}, false},
		{10, "dead", false, span{1, 5}, true},
	}
}

func ruleOf(kind int) (itemRule, bool) {
	for _, x := range itemRules() {
		if x.kind == kind {
			return x, true
		}
	}
	return itemRule{}, false
}

func wantItemOk(i impl.Item) bool {
	rule, there := ruleOf(i.Kind)
	if !there || i.Obj < 0 || !rule.vals.has(i.Val) {
		return false
	}
	if !rule.obj && i.Obj != 0 {
		return false
	}
	if rule.word == "got" {
		return i.Ok || i.Val == 0
	}
	return !i.Ok
}

func wantItemText(i impl.Item) string {
	rule, _ := ruleOf(i.Kind)
	if !wantItemOk(i) || i.Obj > topNum || i.Val > topNum {
		return ""
	}
	text := rule.word
	if rule.obj {
		text += " " + strconv.Itoa(i.Obj)
	}
	switch {
	case rule.tells && i.Val == -1:
		text += " else"
	case rule.tells:
		text += " " + strconv.Itoa(i.Val)
	}
	if rule.word == "got" && !i.Ok {
		text += " zero"
	}
	return text
}

// itemInts are at, below and above all bounds of Obj and Val, and far out.
func itemInts() []int {
	return []int{
		0, 1, 2, 3, 4, 5, 6, 7, 9, 10, 500, 998, 999, 1000, 1001, 1 << 31, topNum - 1, topNum, topNum + 1, topNum + 2, 1 << 33, math.MaxInt - 1, math.MaxInt,
		-1, -2, -3, -999, -1000, -1 << 32, 1 - 1<<32, math.MinInt + 1, math.MinInt,
	}
}

func itemKinds() []int {
	l := []int{1<<32 + 1, 1<<32 + 9, 1 - 1<<32, math.MaxInt, math.MinInt, math.MinInt + 1}
	for kind := -3; kind <= 14; kind++ {
		l = append(l, kind)
	}
	return l
}

func TestGorConstants(t *testing.T) {
	states := []int{impl.GsReady, impl.GsWait, impl.GsDone, impl.GsDead}
	if impl.MaxGs != 10 || !slices.Equal(states, []int{1, 2, 3, 4}) {
		t.Errorf("at most %d goroutines, of the states %v", impl.MaxGs, states)
	}
	kinds := []int{impl.ItSent, impl.ItGot, impl.ItClosed, impl.ItPicked, impl.ItLocked, impl.ItUnlocked, impl.ItSpawned, impl.ItPrinted, impl.ItDone, impl.ItDead}
	if !slices.Equal(kinds, []int{1, 2, 3, 4, 5, 6, 7, 8, 9, 10}) {
		t.Errorf("the kinds are %v", kinds)
	}
	whys := []int{impl.WyClosed, impl.WyNil, impl.WyOwner, impl.WySelf, impl.WyMany}
	if !slices.Equal(whys, []int{1, 2, 3, 4, 5}) {
		t.Errorf("the whys are %v", whys)
	}
}

// A conversion is built only where fields, their order and their types are the document's.
func TestGorTypes(t *testing.T) {
	i := impl.Item(struct {
		Kind, Obj, Val int
		Ok             bool
	}{1, 2, 3, true})
	if i != (impl.Item{Kind: 1, Obj: 2, Val: 3, Ok: true}) {
		t.Errorf("an item is %v", i)
	}
	g := impl.Gor(struct {
		Proc, Pc int
		Regs     []int
		State    int
		Trace    []impl.Item
	}{1, 2, []int{3}, 4, []impl.Item{i}})
	if !sameGor(g, impl.Gor{Proc: 1, Pc: 2, Regs: []int{3}, State: 4, Trace: []impl.Item{i}}) {
		t.Errorf("a goroutine is %v", g)
	}
}

func TestItemsOfAllParts(t *testing.T) {
	right := map[int]int{}
	for _, kind := range itemKinds() {
		for _, obj := range itemInts() {
			for _, val := range itemInts() {
				for _, ok := range []bool{false, true} {
					i := impl.Item{Kind: kind, Obj: obj, Val: val, Ok: ok}
					want := wantItemOk(i)
					if got := impl.ItemOk(i); got != want {
						t.Fatalf("ItemOk(%+v) = %v", i, got)
					}
					if got := impl.ItemText(i); got != wantItemText(i) {
						t.Fatalf("ItemText(%+v) = %q, not %q", i, got, wantItemText(i))
					}
					if want {
						right[kind]++
					}
				}
			}
		}
	}
	for _, x := range itemRules() {
		if right[x.kind] == 0 {
			t.Errorf("never right: %s", x.word)
		}
	}
	if len(right) != 10 {
		t.Errorf("%d kinds", len(right))
	}
}

func TestItemOkOneByOne(t *testing.T) {
	for _, x := range []struct {
		what  string
		i     impl.Item
		right bool
	}{
		{"nothing of it", impl.Item{}, false},
		{"a Kind of -1", impl.Item{Kind: -1}, false},
		{"a Kind of 11", impl.Item{Kind: 11}, false},
		{"the greatest Kind", impl.Item{Kind: math.MaxInt}, false},
		{"the least Kind", impl.Item{Kind: math.MinInt}, false},
		{"sent 0", impl.Item{Kind: impl.ItSent}, true},
		{"sent 999", impl.Item{Kind: impl.ItSent, Val: 999}, true},
		{"sent 1000", impl.Item{Kind: impl.ItSent, Val: 1000}, false},
		{"sent -1", impl.Item{Kind: impl.ItSent, Val: -1}, false},
		{"sent to the channel 6, which no program has", impl.Item{Kind: impl.ItSent, Obj: 6}, true},
		{"sent to the greatest channel", impl.Item{Kind: impl.ItSent, Obj: math.MaxInt}, true},
		{"sent to a nil channel", impl.Item{Kind: impl.ItSent, Obj: -1}, false},
		{"sent with Ok", impl.Item{Kind: impl.ItSent, Ok: true}, false},
		{"got 0 that was sent", impl.Item{Kind: impl.ItGot, Ok: true}, true},
		{"got 0 that was not sent", impl.Item{Kind: impl.ItGot}, true},
		{"got 999", impl.Item{Kind: impl.ItGot, Val: 999, Ok: true}, true},
		{"got 1000", impl.Item{Kind: impl.ItGot, Val: 1000, Ok: true}, false},
		{"got -1", impl.Item{Kind: impl.ItGot, Val: -1, Ok: true}, false},
		{"got 1 that was not sent", impl.Item{Kind: impl.ItGot, Val: 1}, false},
		{"got -1 that was not sent", impl.Item{Kind: impl.ItGot, Val: -1}, false},
		{"got from a nil channel", impl.Item{Kind: impl.ItGot, Obj: -1, Ok: true}, false},
		{"closed", impl.Item{Kind: impl.ItClosed, Obj: 5}, true},
		{"closed with a Val", impl.Item{Kind: impl.ItClosed, Val: 1}, false},
		{"closed with a Val of -1", impl.Item{Kind: impl.ItClosed, Val: -1}, false},
		{"closed with Ok", impl.Item{Kind: impl.ItClosed, Ok: true}, false},
		{"closed a nil channel", impl.Item{Kind: impl.ItClosed, Obj: -1}, false},
		{"picked Else", impl.Item{Kind: impl.ItPicked, Val: -1}, true},
		{"picked -2", impl.Item{Kind: impl.ItPicked, Val: -2}, false},
		{"picked the greatest", impl.Item{Kind: impl.ItPicked, Val: math.MaxInt}, true},
		{"picked of the select -1", impl.Item{Kind: impl.ItPicked, Obj: -1}, false},
		{"picked with Ok", impl.Item{Kind: impl.ItPicked, Ok: true}, false},
		{"locked", impl.Item{Kind: impl.ItLocked, Obj: 3}, true},
		{"locked with a Val", impl.Item{Kind: impl.ItLocked, Val: 1}, false},
		{"locked with Ok", impl.Item{Kind: impl.ItLocked, Ok: true}, false},
		{"locked the mutex -1", impl.Item{Kind: impl.ItLocked, Obj: -1}, false},
		{"unlocked", impl.Item{Kind: impl.ItUnlocked, Obj: 3}, true},
		{"unlocked with a Val", impl.Item{Kind: impl.ItUnlocked, Val: 1}, false},
		{"unlocked with Ok", impl.Item{Kind: impl.ItUnlocked, Ok: true}, false},
		{"unlocked the mutex -1", impl.Item{Kind: impl.ItUnlocked, Obj: -1}, false},
		{"spawned 0", impl.Item{Kind: impl.ItSpawned, Obj: 5}, true},
		{"spawned the greatest", impl.Item{Kind: impl.ItSpawned, Val: math.MaxInt}, true},
		{"spawned -1", impl.Item{Kind: impl.ItSpawned, Val: -1}, false},
		{"spawned of the procedure -1", impl.Item{Kind: impl.ItSpawned, Obj: -1}, false},
		{"spawned with Ok", impl.Item{Kind: impl.ItSpawned, Ok: true}, false},
		{"printed 0", impl.Item{Kind: impl.ItPrinted}, true},
		{"printed 999", impl.Item{Kind: impl.ItPrinted, Val: 999}, true},
		{"printed 1000", impl.Item{Kind: impl.ItPrinted, Val: 1000}, false},
		{"printed -1", impl.Item{Kind: impl.ItPrinted, Val: -1}, false},
		{"printed with an Obj", impl.Item{Kind: impl.ItPrinted, Obj: 1}, false},
		{"printed with Ok", impl.Item{Kind: impl.ItPrinted, Ok: true}, false},
		{"done", impl.Item{Kind: impl.ItDone}, true},
		{"done with a Val", impl.Item{Kind: impl.ItDone, Val: 1}, false},
		{"done with an Obj", impl.Item{Kind: impl.ItDone, Obj: 1}, false},
		{"done with an Obj of -1", impl.Item{Kind: impl.ItDone, Obj: -1}, false},
		{"done with Ok", impl.Item{Kind: impl.ItDone, Ok: true}, false},
		{"dead without a why", impl.Item{Kind: impl.ItDead}, false},
		{"dead by the first why", impl.Item{Kind: impl.ItDead, Val: impl.WyClosed}, true},
		{"dead by the last why", impl.Item{Kind: impl.ItDead, Val: impl.WyMany}, true},
		{"dead by one beyond", impl.Item{Kind: impl.ItDead, Val: 6}, false},
		{"dead by -1", impl.Item{Kind: impl.ItDead, Val: -1}, false},
		{"dead with an Obj", impl.Item{Kind: impl.ItDead, Obj: 1, Val: 1}, false},
		{"dead with Ok", impl.Item{Kind: impl.ItDead, Val: 1, Ok: true}, false},
	} {
		if got := impl.ItemOk(x.i); got != x.right {
			t.Errorf("%s: ItemOk is %v", x.what, got)
		}
	}
}

func TestItemTextOneByOne(t *testing.T) {
	for _, x := range []struct {
		i    impl.Item
		want string
	}{
		{impl.Item{Kind: impl.ItSent, Obj: 2, Val: 30}, "sent 2 30"},
		{impl.Item{Kind: impl.ItSent}, "sent 0 0"},
		{impl.Item{Kind: impl.ItGot, Obj: 1, Val: 999, Ok: true}, "got 1 999"},
		{impl.Item{Kind: impl.ItGot, Obj: 1, Ok: true}, "got 1 0"},
		{impl.Item{Kind: impl.ItGot, Obj: 1}, "got 1 0 zero"},
		{impl.Item{Kind: impl.ItClosed, Obj: 4}, "closed 4"},
		{impl.Item{Kind: impl.ItPicked, Obj: 3, Val: 2}, "picked 3 2"},
		{impl.Item{Kind: impl.ItPicked, Obj: 3}, "picked 3 0"},
		{impl.Item{Kind: impl.ItPicked, Obj: 3, Val: -1}, "picked 3 else"},
		{impl.Item{Kind: impl.ItLocked, Obj: 3}, "locked 3"},
		{impl.Item{Kind: impl.ItUnlocked}, "unlocked 0"},
		{impl.Item{Kind: impl.ItSpawned, Obj: 5, Val: 9}, "spawned 5 9"},
		{impl.Item{Kind: impl.ItSpawned}, "spawned 0 0"},
		{impl.Item{Kind: impl.ItPrinted, Val: 12}, "printed 12"},
		{impl.Item{Kind: impl.ItPrinted}, "printed 0"},
		{impl.Item{Kind: impl.ItDone}, "done"},
		{impl.Item{Kind: impl.ItDead, Val: impl.WyOwner}, "dead 3"},
		{impl.Item{Kind: impl.ItClosed, Obj: 4294967295}, "closed 4294967295"},
		{impl.Item{Kind: impl.ItSpawned, Obj: 1, Val: 4294967295}, "spawned 1 4294967295"},
		// Right items with a number that can't be written.
		{impl.Item{Kind: impl.ItSent, Obj: 4294967296}, ""},
		{impl.Item{Kind: impl.ItGot, Obj: 4294967296}, ""},
		{impl.Item{Kind: impl.ItClosed, Obj: 4294967296}, ""},
		{impl.Item{Kind: impl.ItPicked, Obj: 4294967296, Val: -1}, ""},
		{impl.Item{Kind: impl.ItPicked, Val: 4294967296}, ""},
		{impl.Item{Kind: impl.ItLocked, Obj: math.MaxInt}, ""},
		{impl.Item{Kind: impl.ItUnlocked, Obj: math.MaxInt}, ""},
		{impl.Item{Kind: impl.ItSpawned, Obj: math.MaxInt}, ""},
		{impl.Item{Kind: impl.ItSpawned, Val: math.MaxInt}, ""},
		// Items that aren't right.
		{impl.Item{}, ""},
		{impl.Item{Kind: 11}, ""},
		{impl.Item{Kind: impl.ItSent, Obj: -1}, ""},
		{impl.Item{Kind: impl.ItSent, Val: 1000}, ""},
		{impl.Item{Kind: impl.ItSent, Val: -1}, ""},
		{impl.Item{Kind: impl.ItGot, Val: 3}, ""},
		{impl.Item{Kind: impl.ItClosed, Val: 1}, ""},
		{impl.Item{Kind: impl.ItPicked, Val: -2}, ""},
		{impl.Item{Kind: impl.ItSpawned, Val: -1}, ""},
		{impl.Item{Kind: impl.ItPrinted, Obj: 1}, ""},
		{impl.Item{Kind: impl.ItDone, Ok: true}, ""},
		{impl.Item{Kind: impl.ItDead}, ""},
	} {
		if got := impl.ItemText(x.i); got != x.want {
			t.Errorf("ItemText(%+v) = %q, not %q", x.i, got, x.want)
		}
	}
}

// Each right item whose numbers can be written has a text of its own.
func TestItemTextTellsItems(t *testing.T) {
	met := map[string]impl.Item{}
	for _, x := range itemRules() {
		for _, obj := range itemInts() {
			for _, val := range itemInts() {
				for _, ok := range []bool{false, true} {
					i := impl.Item{Kind: x.kind, Obj: obj, Val: val, Ok: ok}
					text := impl.ItemText(i)
					if other, there := met[text]; there && text != "" {
						t.Fatalf("%q is the text of %+v and of %+v", text, i, other)
					}
					met[text] = i
				}
			}
		}
	}
}

func sameGor(a, b impl.Gor) bool {
	return a.Proc == b.Proc && a.Pc == b.Pc && slices.Equal(a.Regs, b.Regs) && a.State == b.State && slices.Equal(a.Trace, b.Trace)
}

func copyGor(g impl.Gor) impl.Gor {
	g.Regs, g.Trace = slices.Clone(g.Regs), slices.Clone(g.Trace)
	return g
}

func TestGorNew(t *testing.T) {
	for _, proc := range []int{0, 1, 5, 6, 1 << 32, math.MaxInt, -1, -2, 1 - 1<<32, math.MinInt} {
		for _, arg := range append(sentValues(), 2, 998, -2, 1001) {
			want := impl.Gor{}
			if proc >= 0 && arg >= 0 && arg <= 999 {
				want = impl.Gor{Proc: proc, Regs: []int{arg, 0, 0, 0, 0, 0}, State: impl.GsReady}
			}
			if got := impl.GorNew(proc, arg); !sameGor(got, want) {
				t.Errorf("GorNew(%d, %d) = %+v, not %+v", proc, arg, got, want)
			}
		}
	}
}

func TestGorNewIsRight(t *testing.T) {
	for proc := range 3 {
		for _, arg := range []int{0, 1, 999} {
			g := impl.GorNew(proc, arg)
			if got := impl.GorOk(fullProg(), g); got != (proc < 2) {
				t.Errorf("%+v: GorOk is %v", g, got)
			}
			for r, want := range []int{arg, 0, 0, 0, 0, 0, 0} {
				if got := impl.Reg(g, r); got != want {
					t.Errorf("the register %d of %+v is %d", r, g, got)
				}
			}
		}
	}
}

// wantGorOk says the document's conditions one by one, of a program that is right or not.
func wantGorOk(p impl.Prog, right bool, g impl.Gor) bool {
	if !right || g.Proc < 0 || g.Proc >= len(p.Procs) {
		return false
	}
	if g.Pc < 0 || g.Pc >= len(p.Procs[g.Proc].Code) || len(g.Regs) != 6 {
		return false
	}
	for _, v := range g.Regs {
		if v < 0 || v > 999 {
			return false
		}
	}
	if g.State < 1 || g.State > 4 {
		return false
	}
	last := 0
	for at, i := range g.Trace {
		if !wantItemOk(i) {
			return false
		}
		if at < len(g.Trace)-1 && (i.Kind == 9 || i.Kind == 10) {
			return false
		}
		last = i.Kind
	}
	return (last == 9) == (g.State == 3) && (last == 10) == (g.State == 4)
}

func gorRegs() [][]int {
	return [][]int{
		{0, 0, 0, 0, 0, 0}, {999, 999, 999, 999, 999, 999}, {4, 0, 7, 999, 1, 0},
		nil, {}, {1, 2, 3, 4, 5}, {1, 2, 3, 4, 5, 6, 7},
		{-1, 0, 0, 0, 0, 0}, {0, 0, 0, 0, 0, 1000}, {0, 0, math.MaxInt, 0, 0, 0}, {0, 0, 0, math.MinInt, 0, 0},
	}
}

func gorTraces() [][]impl.Item {
	sent, got := impl.Item{Kind: impl.ItSent, Obj: 1, Val: 5}, impl.Item{Kind: impl.ItGot, Obj: 2}
	done, dead := impl.Item{Kind: impl.ItDone}, impl.Item{Kind: impl.ItDead, Val: impl.WySelf}
	wrong := impl.Item{Kind: impl.ItSent, Val: 1000}
	return [][]impl.Item{
		nil, {}, {sent}, {sent, got, sent},
		{done}, {sent, done}, {dead}, {got, sent, dead},
		{done, sent}, {dead, sent}, {sent, done, sent}, {sent, dead, got},
		{done, done}, {dead, dead}, {done, dead}, {dead, done},
		{wrong}, {wrong, sent}, {sent, wrong}, {wrong, done}, {wrong, dead},
		{{}}, {sent, {Kind: 11}}, {{Kind: impl.ItDead}}, {sent, {Kind: impl.ItDead, Val: 6}}, {{Kind: impl.ItDone, Ok: true}},
	}
}

// allGors has each of these parts with each other one: right goroutines, and such as are wrong in one way or in many.
func allGors() []impl.Gor {
	var l []impl.Gor
	for _, proc := range []int{0, 1, 2, -1} {
		for _, pc := range []int{0, 5, 6, 9, 10, -1} {
			for _, regs := range gorRegs() {
				for state := range 6 {
					for _, trace := range gorTraces() {
						l = append(l, impl.Gor{Proc: proc, Pc: pc, Regs: regs, State: state, Trace: trace})
					}
				}
			}
		}
	}
	return l
}

// someGors are those of allGors that stand at the beginning of the first procedure: right and wrong ones.
func someGors() []impl.Gor {
	var l []impl.Gor
	for _, g := range allGors() {
		if g.Proc == 0 && g.Pc == 0 {
			l = append(l, g)
		}
	}
	return l
}

func TestGorOkOfAllParts(t *testing.T) {
	p, wrong := fullProg(), fullProg()
	wrong.Mus = 5
	met := map[int]int{}
	for _, g := range allGors() {
		want := wantGorOk(p, true, g)
		if got := impl.GorOk(p, g); got != want {
			t.Fatalf("GorOk of %+v is %v", g, got)
		}
		if want {
			met[g.State]++
		}
		if met[g.State]%50 == 1 && impl.GorOk(wrong, g) {
			t.Fatalf("GorOk of %+v is true in a wrong program", g)
		}
	}
	for state := 1; state <= 4; state++ {
		if met[state] == 0 {
			t.Errorf("never right in the state %d", state)
		}
	}
}

// rightGor is right in fullProg.
func rightGor() impl.Gor {
	return impl.Gor{Proc: 1, Pc: 2, Regs: []int{1, 2, 3, 4, 5, 6}, State: impl.GsReady, Trace: []impl.Item{{Kind: impl.ItLocked, Obj: 1}, {Kind: impl.ItPicked, Val: -1}, {Kind: impl.ItGot, Obj: 2, Val: 7, Ok: true}}}
}

// endedGor is rightGor in the state, with i at the end of its trace.
func endedGor(state int, i impl.Item) func(g *impl.Gor) {
	return func(g *impl.Gor) {
		g.State = state
		g.Trace = append(g.Trace, i)
	}
}

func TestGorOkOneByOne(t *testing.T) {
	done, dead, sent := impl.Item{Kind: impl.ItDone}, impl.Item{Kind: impl.ItDead, Val: 1}, impl.Item{Kind: impl.ItSent}
	for _, x := range []struct {
		what  string
		do    func(g *impl.Gor)
		right bool
	}{
		{"as it is", func(g *impl.Gor) {}, true},
		{"nothing of it", func(g *impl.Gor) { *g = impl.Gor{} }, false},
		{"the first procedure", func(g *impl.Gor) { g.Proc = 0 }, true},
		{"a procedure below 0", func(g *impl.Gor) { g.Proc = -1 }, false},
		{"a procedure that isn't there", func(g *impl.Gor) { g.Proc = 2 }, false},
		{"the greatest procedure", func(g *impl.Gor) { g.Proc = math.MaxInt }, false},
		{"the least procedure", func(g *impl.Gor) { g.Proc = math.MinInt }, false},
		{"the first place", func(g *impl.Gor) { g.Pc = 0 }, true},
		{"the last place", func(g *impl.Gor) { g.Pc = 5 }, true},
		{"a place beyond the last", func(g *impl.Gor) { g.Pc = 6 }, false},
		{"the last place of the other one", func(g *impl.Gor) { g.Proc, g.Pc = 0, 9 }, true},
		{"a place beyond the last of the other one", func(g *impl.Gor) { g.Proc, g.Pc = 0, 10 }, false},
		{"a place below 0", func(g *impl.Gor) { g.Pc = -1 }, false},
		{"the greatest place", func(g *impl.Gor) { g.Pc = math.MaxInt }, false},
		{"the least place", func(g *impl.Gor) { g.Pc = math.MinInt }, false},
		{"no registers", func(g *impl.Gor) { g.Regs = nil }, false},
		{"one register too few", func(g *impl.Gor) { g.Regs = g.Regs[:5] }, false},
		{"one register too many", func(g *impl.Gor) { g.Regs = append(g.Regs, 0) }, false},
		{"a first register of 999", func(g *impl.Gor) { g.Regs[0] = 999 }, true},
		{"a first register of 1000", func(g *impl.Gor) { g.Regs[0] = 1000 }, false},
		{"a first register of -1", func(g *impl.Gor) { g.Regs[0] = -1 }, false},
		{"a last register of 0", func(g *impl.Gor) { g.Regs[5] = 0 }, true},
		{"a last register of 1000", func(g *impl.Gor) { g.Regs[5] = 1000 }, false},
		{"a last register of -1", func(g *impl.Gor) { g.Regs[5] = -1 }, false},
		{"a state of 0", func(g *impl.Gor) { g.State = 0 }, false},
		{"a state of 5", func(g *impl.Gor) { g.State = 5 }, false},
		{"a state of -1", func(g *impl.Gor) { g.State = -1 }, false},
		{"the greatest state", func(g *impl.Gor) { g.State = math.MaxInt }, false},
		{"waiting", func(g *impl.Gor) { g.State = impl.GsWait }, true},
		{"ready without a trace", func(g *impl.Gor) { g.Trace = nil }, true},
		{"waiting without a trace", func(g *impl.Gor) { g.State, g.Trace = impl.GsWait, nil }, true},
		{"done without a trace", func(g *impl.Gor) { g.State, g.Trace = impl.GsDone, nil }, false},
		{"dead without a trace", func(g *impl.Gor) { g.State, g.Trace = impl.GsDead, nil }, false},
		{"done without its item", func(g *impl.Gor) { g.State = impl.GsDone }, false},
		{"dead without its item", func(g *impl.Gor) { g.State = impl.GsDead }, false},
		{"done", endedGor(impl.GsDone, done), true},
		{"dead", endedGor(impl.GsDead, dead), true},
		{"done by the item of a dead one", endedGor(impl.GsDone, dead), false},
		{"dead by the item of one that is done", endedGor(impl.GsDead, done), false},
		{"ready by the item of one that is done", endedGor(impl.GsReady, done), false},
		{"ready by the item of a dead one", endedGor(impl.GsReady, dead), false},
		{"waiting by the item of one that is done", endedGor(impl.GsWait, done), false},
		{"waiting by the item of a dead one", endedGor(impl.GsWait, dead), false},
		{"no state, by the item of one that is done", endedGor(0, done), false},
		{"no state, by the item of a dead one", endedGor(5, dead), false},
		{"done by an item that isn't right", endedGor(impl.GsDone, impl.Item{Kind: impl.ItDone, Val: 1}), false},
		{"dead without a why", endedGor(impl.GsDead, impl.Item{Kind: impl.ItDead}), false},
		{"done alone", func(g *impl.Gor) { g.State, g.Trace = impl.GsDone, []impl.Item{done} }, true},
		{"dead alone", func(g *impl.Gor) { g.State, g.Trace = impl.GsDead, []impl.Item{dead} }, true},
		{"done ahead of the last place", func(g *impl.Gor) { g.Trace[1] = done }, false},
		{"dead ahead of the last place", func(g *impl.Gor) { g.Trace[0] = dead }, false},
		{"done twice", func(g *impl.Gor) { g.State, g.Trace = impl.GsDone, []impl.Item{done, done} }, false},
		{"dead twice", func(g *impl.Gor) { g.State, g.Trace = impl.GsDead, []impl.Item{dead, dead} }, false},
		{"dead and then done", func(g *impl.Gor) { g.State, g.Trace = impl.GsDone, []impl.Item{dead, done} }, false},
		{"done and then dead", func(g *impl.Gor) { g.State, g.Trace = impl.GsDead, []impl.Item{done, dead} }, false},
		{"done and then sent", func(g *impl.Gor) { g.State, g.Trace = impl.GsDone, []impl.Item{done, sent} }, false},
		{"a first item that isn't right", func(g *impl.Gor) { g.Trace[0] = impl.Item{} }, false},
		{"an item in the middle that isn't right", func(g *impl.Gor) { g.Trace[1].Val = -2 }, false},
		{"a last item that isn't right", func(g *impl.Gor) { g.Trace[2].Val = 1000 }, false},
		{"items of things that the program doesn't have", func(g *impl.Gor) { g.Trace[0].Obj, g.Trace[2].Obj = 99, math.MaxInt }, true},
	} {
		g := rightGor()
		x.do(&g)
		if got := impl.GorOk(fullProg(), g); got != x.right {
			t.Errorf("%s: GorOk is %v", x.what, got)
		}
	}
}

func TestGorOkOfPrograms(t *testing.T) {
	g := impl.GorNew(0, 1)
	for _, x := range rightChanges() {
		p := fullProg()
		x.do(&p)
		if !impl.GorOk(p, g) {
			t.Errorf("not right in a right program: %s", x.what)
		}
	}
	for _, x := range wrongChanges() {
		p := fullProg()
		x.do(&p)
		if impl.GorOk(p, g) {
			t.Errorf("right in a wrong program: %s", x.what)
		}
	}
	if impl.GorOk(impl.Prog{}, g) || impl.GorOk(impl.Prog{}, impl.Gor{}) {
		t.Error("right in a program of nothing")
	}
}

// Each procedure of the widest program has just the places 0 to 39.
func TestGorOkOfPlaces(t *testing.T) {
	for proc := -1; proc <= 6; proc++ {
		for pc := -1; pc <= 40; pc++ {
			g := rightGor()
			g.Proc, g.Pc = proc, pc
			if got := impl.GorOk(widestProg(), g); got != (proc >= 0 && proc < 6 && pc >= 0 && pc < 40) {
				t.Errorf("at the place %d of the procedure %d: GorOk is %v", pc, proc, got)
			}
		}
	}
}

// In a long trace each item is looked at, and none but the last may be an end.
func TestGorOkOfTheWrongOneOfMany(t *testing.T) {
	for at := range 30 {
		for _, bad := range []impl.Item{{}, {Kind: impl.ItPicked, Val: -2}, {Kind: impl.ItDone}, {Kind: impl.ItDead, Val: 5}} {
			for state := 1; state <= 4; state++ {
				g := rightGor()
				g.State, g.Trace = state, slices.Repeat([]impl.Item{{Kind: impl.ItPrinted, Val: 3}}, 30)
				g.Trace[at] = bad
				want := at == 29 && (bad.Kind == impl.ItDone && state == impl.GsDone || bad.Kind == impl.ItDead && state == impl.GsDead)
				if got := impl.GorOk(fullProg(), g); got != want {
					t.Errorf("%+v at %d in the state %d: GorOk is %v", bad, at, state, got)
				}
			}
		}
	}
}

// regNumbers are registers that each goroutine has, such as only some have, and such as none has.
func regNumbers() []int {
	return []int{0, 1, 2, 3, 4, 5, 6, 7, 8, -1, -2, 1 << 32, 1<<32 + 1, 1 - 1<<32, math.MaxInt, math.MinInt, math.MinInt + 1}
}

// wantSetReg holds r against the registers that stand there, also in a goroutine that isn't right.
func wantSetReg(g impl.Gor, r int, v int) impl.Gor {
	d := copyGor(g)
	for k := range d.Regs {
		if k == r && v >= 0 && v <= 999 {
			d.Regs[k] = v
		}
	}
	return d
}

func wantReg(g impl.Gor, r int) int {
	for k, v := range g.Regs {
		if k == r {
			return v
		}
	}
	return 0
}

func TestRegisters(t *testing.T) {
	for _, g := range someGors() {
		for _, r := range regNumbers() {
			if got := impl.Reg(g, r); got != wantReg(g, r) {
				t.Fatalf("Reg(%+v, %d) = %d", g, r, got)
			}
			for _, v := range sentValues() {
				if got, want := impl.SetReg(g, r, v), wantSetReg(g, r, v); !sameGor(got, want) {
					t.Fatalf("SetReg(%+v, %d, %d) = %+v, not %+v", g, r, v, got, want)
				}
			}
		}
	}
}

func TestRegistersOneByOne(t *testing.T) {
	for _, x := range []struct {
		what string
		r, v int
		regs []int
	}{
		{"the first", 0, 9, []int{9, 2, 3, 4, 5, 6}},
		{"one in the middle", 3, 9, []int{1, 2, 3, 9, 5, 6}},
		{"the last", 5, 9, []int{1, 2, 3, 4, 5, 9}},
		{"one beyond", 6, 9, []int{1, 2, 3, 4, 5, 6}},
		{"one below 0", -1, 9, []int{1, 2, 3, 4, 5, 6}},
		{"the greatest", math.MaxInt, 9, []int{1, 2, 3, 4, 5, 6}},
		{"the least", math.MinInt, 9, []int{1, 2, 3, 4, 5, 6}},
		{"the least value", 2, 0, []int{1, 2, 0, 4, 5, 6}},
		{"the greatest value", 2, 999, []int{1, 2, 999, 4, 5, 6}},
		{"a value of 1000", 2, 1000, []int{1, 2, 3, 4, 5, 6}},
		{"a value of -1", 2, -1, []int{1, 2, 3, 4, 5, 6}},
		{"the greatest int", 2, math.MaxInt, []int{1, 2, 3, 4, 5, 6}},
		{"the least int", 2, math.MinInt, []int{1, 2, 3, 4, 5, 6}},
		{"neither", 6, 1000, []int{1, 2, 3, 4, 5, 6}},
	} {
		want := rightGor()
		want.Regs = x.regs
		got := impl.SetReg(rightGor(), x.r, x.v)
		if !sameGor(got, want) {
			t.Errorf("%s: SetReg makes %+v", x.what, got)
		}
		if impl.Reg(got, x.r) != wantReg(want, x.r) {
			t.Errorf("%s: Reg is %d", x.what, impl.Reg(got, x.r))
		}
	}
}

// What stands in a register is told also where it is no value; what stands in none is 0.
func TestRegOfWrongOnes(t *testing.T) {
	g := impl.Gor{Regs: []int{-5, 1000, math.MinInt, math.MaxInt}}
	for r, want := range []int{-5, 1000, math.MinInt, math.MaxInt, 0, 0, 0} {
		if got := impl.Reg(g, r); got != want {
			t.Errorf("the register %d is %d", r, got)
		}
	}
	if impl.Reg(impl.Gor{}, 0) != 0 || impl.Reg(impl.Gor{Regs: []int{}}, 0) != 0 {
		t.Error("a register of none")
	}
}

// toldItems are right items, such as end a trace, and such as are wrong.
func toldItems() []impl.Item {
	return []impl.Item{
		{Kind: impl.ItSent, Obj: 1, Val: 2}, {Kind: impl.ItGot, Obj: 1, Val: 2, Ok: true}, {Kind: impl.ItGot, Obj: 3}, {Kind: impl.ItPicked, Obj: 1, Val: -1},
		{Kind: impl.ItDone}, {Kind: impl.ItDead, Val: 3},
		{}, {Kind: 11, Obj: -4, Val: math.MinInt, Ok: true}, {Kind: math.MaxInt, Obj: math.MaxInt, Val: math.MaxInt},
	}
}

func wantTell(g impl.Gor, i impl.Item) impl.Gor {
	d := copyGor(g)
	d.Trace = slices.Concat(g.Trace, []impl.Item{i})
	return d
}

func TestTell(t *testing.T) {
	for _, g := range someGors() {
		for _, i := range toldItems() {
			if got, want := impl.Tell(g, i), wantTell(g, i); !sameGor(got, want) {
				t.Fatalf("Tell(%+v, %+v) = %+v, not %+v", g, i, got, want)
			}
		}
	}
}

func TestTellOneByOne(t *testing.T) {
	i := impl.Item{Kind: impl.ItPrinted, Val: 4}
	g := impl.Tell(impl.GorNew(0, 0), i)
	if !slices.Equal(g.Trace, []impl.Item{i}) || !impl.GorOk(fullProg(), g) {
		t.Errorf("behind an empty trace: %+v", g)
	}
	g = rightGor()
	d := impl.Tell(g, i)
	if len(d.Trace) != 4 || d.Trace[3] != i || !slices.Equal(d.Trace[:3], g.Trace) || !impl.GorOk(fullProg(), d) {
		t.Errorf("behind three items: %+v", d)
	}
	d.Trace = d.Trace[:3]
	if !sameGor(d, g) {
		t.Errorf("more than the trace is changed: %+v", d)
	}
}

// whys are 0, the five, and ints that are none of both.
func whys() []int {
	return []int{0, 1, 2, 3, 4, 5, 6, 7, -1, -2, 1000, 1 << 32, 1<<32 + 1, 1 - 1<<32, math.MaxInt, math.MinInt}
}

func wantOver(g impl.Gor, why int) impl.Gor {
	if why == 0 {
		d := wantTell(g, impl.Item{Kind: 9})
		d.State = 3
		return d
	}
	d := wantTell(g, impl.Item{Kind: 10, Val: why})
	d.State = 4
	return d
}

func TestOver(t *testing.T) {
	for _, g := range someGors() {
		for _, why := range whys() {
			if got, want := impl.Over(g, why), wantOver(g, why); !sameGor(got, want) {
				t.Fatalf("Over(%+v, %d) = %+v, not %+v", g, why, got, want)
			}
		}
	}
}

// Over makes a right one of a right one that hasn't ended, if the why is one.
func TestOverIsRight(t *testing.T) {
	for _, g := range allGors() {
		if !wantGorOk(fullProg(), true, g) {
			continue
		}
		for _, why := range whys() {
			want := g.State < impl.GsDone && why >= 0 && why <= impl.WyMany
			if got := impl.GorOk(fullProg(), impl.Over(g, why)); got != want {
				t.Fatalf("GorOk behind Over(%+v, %d) is %v", g, why, got)
			}
		}
	}
}

// A goroutine that begins rightly stays right, and keeps all that it has told, whatever is set and told.
func TestGorStaysRight(t *testing.T) {
	roll := dice()
	for range 200 {
		p := fullProg()
		want := impl.Gor{Proc: roll(2), Regs: []int{roll(1000), 0, 0, 0, 0, 0}, State: impl.GsReady}
		g := impl.GorNew(want.Proc, want.Regs[0])
		for range roll(60) {
			r, v, i := roll(9)-1, roll(1200)-100, toldItems()[roll(4)]
			if roll(2) == 0 {
				g, want = impl.SetReg(g, r, v), wantSetReg(want, r, v)
			} else {
				g, want = impl.Tell(g, i), wantTell(want, i)
			}
			if !sameGor(g, want) || !impl.GorOk(p, g) {
				t.Fatalf("%+v, not %+v", g, want)
			}
		}
		why := roll(6)
		g, want = impl.Over(g, why), wantOver(want, why)
		if !sameGor(g, want) || !impl.GorOk(p, g) {
			t.Fatalf("%+v, not %+v", g, want)
		}
	}
}

// gorCall is one call of the layer with a goroutine; what isn't answered is left zero.
type gorCall struct {
	what string
	call func(g impl.Gor) impl.Gor
}

func gorCalls() []gorCall {
	p := fullProg()
	l := []gorCall{
		{"GorOk", func(g impl.Gor) impl.Gor { return asGor(impl.GorOk(p, g)) }},
		{"Reg", func(g impl.Gor) impl.Gor { return impl.Gor{Pc: impl.Reg(g, 2)} }},
		{"Reg of none", func(g impl.Gor) impl.Gor { return impl.Gor{Pc: impl.Reg(g, 99)} }},
		{"SetReg", func(g impl.Gor) impl.Gor { return impl.SetReg(g, 0, 8) }},
		{"SetReg of the last", func(g impl.Gor) impl.Gor { return impl.SetReg(g, 5, 8) }},
		{"SetReg of none", func(g impl.Gor) impl.Gor { return impl.SetReg(g, -1, 8) }},
		{"SetReg behind the last", func(g impl.Gor) impl.Gor { return impl.SetReg(g, len(g.Regs), 8) }},
		{"SetReg of no value", func(g impl.Gor) impl.Gor { return impl.SetReg(g, 0, 1000) }},
	}
	for _, i := range toldItems() {
		l = append(l, gorCall{"Tell", func(g impl.Gor) impl.Gor { return impl.Tell(g, i) }})
	}
	for _, why := range []int{0, 1, 5, -1} {
		l = append(l, gorCall{"Over", func(g impl.Gor) impl.Gor { return impl.Over(g, why) }})
	}
	return l
}

func asGor(ok bool) impl.Gor {
	if ok {
		return impl.Gor{Pc: 1}
	}
	return impl.Gor{}
}

// roomyGor is g in lists with marks ahead of them and in the room behind their ends, and whether all of that is as it was.
func roomyGor(g impl.Gor) (impl.Gor, func() bool) {
	mark := impl.Item{Kind: roomMark}
	regs := slices.Concat([]int{roomMark}, g.Regs, []int{roomMark, roomMark})
	trace := slices.Concat([]impl.Item{mark}, g.Trace, []impl.Item{mark, mark})
	keptRegs, keptTrace := slices.Clone(regs), slices.Clone(trace)
	g.Regs, g.Trace = regs[1:len(g.Regs)+1], trace[1:len(g.Trace)+1]
	return g, func() bool { return slices.Equal(regs, keptRegs) && slices.Equal(trace, keptTrace) }
}

func spoilGor(g impl.Gor) {
	spoilList(g.Regs, 555)
	spoilList(g.Trace, impl.Item{Kind: 555, Obj: 555, Val: 555, Ok: true})
}

func TestGorLeavesArguments(t *testing.T) {
	for _, g := range someGors() {
		for _, x := range gorCalls() {
			d, kept := roomyGor(g)
			x.call(d)
			if !kept() || !sameGor(d, g) {
				t.Fatalf("%s changes %+v to %+v", x.what, g, d)
			}
		}
	}
}

func TestGorAnswersAreNewMemory(t *testing.T) {
	for _, g := range someGors() {
		for _, x := range gorCalls() {
			d, kept := roomyGor(g)
			want := copyGor(x.call(g))
			first, second := x.call(d), x.call(d)
			spoilGor(first)
			if !kept() {
				t.Fatalf("%s of %+v: the answer shares memory with the argument", x.what, g)
			}
			if !sameGor(second, want) {
				t.Fatalf("%s of %+v: two answers share memory", x.what, g)
			}
			spoilGor(d)
			if !sameGor(second, want) {
				t.Fatalf("%s of %+v: the answer changes with the argument", x.what, g)
			}
		}
	}
}

func TestGorNewIsNewMemory(t *testing.T) {
	first, second := impl.GorNew(1, 4), impl.GorNew(1, 4)
	first.Trace = append(first.Trace, impl.Item{Kind: impl.ItDone})
	spoilGor(first)
	want := impl.Gor{Proc: 1, Regs: []int{4, 0, 0, 0, 0, 0}, State: impl.GsReady}
	if !sameGor(second, want) || !sameGor(impl.GorNew(1, 4), want) {
		t.Errorf("%+v and %+v behind another one that was spoilt", second, impl.GorNew(1, 4))
	}
}

func TestGorLeavesProgs(t *testing.T) {
	p := fullProg()
	for _, g := range allGors() {
		impl.GorOk(p, g)
	}
	if !sameProg(p, fullProg()) {
		t.Errorf("the program is changed to %+v", p)
	}
}

func TestGorOfNilAndEmptyLists(t *testing.T) {
	for _, g := range allGors() {
		d := g
		d.Regs, d.Trace = turned(g.Regs), turned(g.Trace)
		if len(g.Regs) != 0 && len(g.Trace) != 0 {
			continue
		}
		for _, x := range gorCalls() {
			if got, want := x.call(d), x.call(g); !sameGor(got, want) {
				t.Fatalf("%s of %+v: %+v with nil and empty lists exchanged, not %+v", x.what, g, got, want)
			}
		}
	}
}

// Asking of one goroutine leaves nothing behind for the next call.
func TestGorKeepsNothing(t *testing.T) {
	all := someGors()
	for at, g := range all {
		for _, x := range gorCalls() {
			want := x.call(g)
			for _, y := range gorCalls() {
				y.call(all[(at+1)%len(all)])
				y.call(rightGor())
			}
			impl.GorNew(3, 77)
			if got := x.call(g); !sameGor(got, want) {
				t.Fatalf("%s of %+v: %+v behind other calls, not %+v", x.what, g, got, want)
			}
		}
	}
}
